/-
  Several texts in one. l01Long, l01PickInt, l01Number, DrawVarText and DrawHex by contracts: some number, some text of at most 20001 bytes; nothing that was there is turned. · What drawn laws share: 'big', the code behind calls that turn nothing of it, and DrawPlaces: a row of twelve numbers below 10000 in new memory. Which numbers are drawn is not said. · Draws by contracts: a pick out of a literal list (l01Pick, l01PickInt), l02Spoilt. Which one is drawn is not said, but that it is one of the list. · l06Meta by a contract: what it draws is a right meta of at most two frees of at most two pages each. · l06Copy by a contract: the same meta in memory of its own. · A meta in a variable whose rows lie in memory of a base of its own (they may lie ahead of the variable): stores into its fields, a free more. · What l06Meta draws is right and short, and stays so when its Tx is one more. No program. · l06Any by a contract: a meta that may be wrong, of few frees and pages. · DrawMetaText, DrawMeta, DrawReadMeta by contracts. · DrawReadMeta by a contract: a text that is short.
-/
import Derived.Test.YtglcfaibgjiigaaDoorDraw2
import Derived.Test.YtglcfaibgjiigaaDoorFrame
import Derived.Test.YtglcfaibgjiigaaDoorSpecReadMeta
import Derived.Test.YtglcfaibgjiigaaDoorAppRow
import Derived.Deep.RegionHeldLaw
import Derived.Test.YtglcfaibgjiigaaDoorStepCall
import Derived.Deep.RegionLaw
import Derived.Deep.AppendLies
import Derived.Test.YtglcfaibgjiigaaDoorSumS
namespace Go.Proofs.YtglcfaibgjiigaaDoor
open Go.RowKit

theorem cells_set (l : List UInt8) (k x : Nat) (hx : x < 256) : (Lib.byteCells l).set k (.int .u8 (x : Int)) = Lib.byteCells (l.set k (UInt8.ofNat x)) := by
  unfold Lib.byteCells
  rw [List.map_set, toNat_ofNat8 x hx]

set_option maxHeartbeats 1000000 in
set_option maxRecDepth 100000 in
theorem l01Long_any (n x : Nat) (hx : x < 256) (hn1 : n ≤ 1048576) (w : World) :
    Calls Tryd.prog 112 #[.int .i64 (n : Int), .int .u8 (x : Int)] w fun e w' => ∃ t : ByteArray, t.size = n ∧ e = .returned (.string t) ∧ Below w.heap.size w w' := by
  obtain ⟨i0, hi, hz0, hz1, hz2⟩ := info_parts Tryd.infoByte
  go_enter Tryd.func112, Tryd.ntmps112
  go_wp2_with (at_make; refine wpList_make_full _ rfl _ _ 22 rfl w.heap.size 5 i0 (.int .u8 0) 1 Tryd.underlying22 hi hz0 hz1 .i64 .i64 _ _ n rfl rfl rfl rfl (by rw [hz2]; omega) (by unfold maxLen; omega) (Nat.le_refl _) ?_)
  intro w1 hown1 hg1
  have hb1 : Below w.heap.size w w1 := (Below.refl _ _).grown hg1 (Nat.le_refl _) (fun k hk => by cases hk)
  have hown2 : w1.ownsRow w.heap.size 5 1 (.slice (some ⟨w.heap.size, 0, none⟩) n n) n (Lib.byteCells (List.replicate n 0)) := by
    have e : (madeCells #[Value.int IntKind.u8 0] n).toList = Lib.byteCells (List.replicate n 0) := by
      simp [toList_madeCells_one, Lib.byteCells]
    rw [← e]; exact hown1
  clear hg1 hown1
  go_wp2
  go_loopg [6] n (fun q iv wr => ∃ (k : Nat) (l : List UInt8), k ≤ n ∧ l.length = n ∧ iv = .int .i64 (k : Int) ∧ q + k = n ∧ wr.ownsRow w.heap.size 5 1 (.slice (some ⟨w.heap.size, 0, none⟩) n n) n (Lib.byteCells l) ∧ Below w.heap.size w wr)
  case atStart => exact ⟨0, List.replicate n 0, Nat.zero_le _, by simp, rfl, rfl, hown2, hb1⟩
  case round =>
    obtain ⟨k, l, hk, hl, rfl, hg, hown, hb⟩ := hrel
    have HG := hide hg
    have HLn := hide hl
    clear hg hown2 hb1
    by_cases hlt : k < n
    · obtain ⟨u, hu⟩ : ∃ u, (Lib.byteCells l)[k]? = some u := ⟨_, List.getElem?_eq_getElem (by rw [Lib.byteCells_length]; omega)⟩
      have hcell : wr.cell? ⟨w.heap.size, k, none⟩ = some u := by rw [hown.cellAt k (by omega), hu]
      have hfz : wr.frozen? ⟨w.heap.size, k, none⟩ = false := hown.frozenAt k
      have HO := hide ((hown.stored k (.int .u8 (x : Int))).1)
      rw [cells_set l k x hx] at HO
      have hi0 : (0 : Int) ≤ (k : Int) := by omega
      have hi1 : (k : Int) < (n : Int) := by omega
      clear hu hown hl
      go_wp2
      go_roundg (gk - 1)
      case measure => have := HG.out; omega
      case rel => exact ⟨k + 1, l.set k (UInt8.ofNat x), by omega, by rw [List.length_set]; exact HLn.out, by go_num, by have := HG.out; omega, HO.out, hb.setCell (Nat.le_refl _) _⟩
    · have hown3 : wr.ownsRow w.heap.size 5 1 (.slice (some ⟨w.heap.size, 0, none⟩) n n) l.length (Lib.byteCells l) := by rw [hl]; exact hown
      have hcv := string_own (dst := 9) (src := 22) Tryd.underlying22 Tryd.underlying5 Tryd.underlying9 hown3
      clear hown hown3 hl
      go_wp2
      go_ret
      exact ⟨⟨l.toArray⟩, by have := HLn.out; simpa [ByteArray.size] using this, rfl, hb⟩

set_option maxHeartbeats 1000000 in
theorem l01PickInt_any (g B : Nat) (a : Option Addr) (len cap : Nat) (zs : List Int) (hz : 0 < zs.length) (hz1 : zs.length ≤ 1000) (r c : Nat) (w : World) (hc : CurAt w g a len cap) (hd : CodeIn w B a len) (hB : B ≤ g) (hr : r ≠ g) (hrl : r < w.heap.size)
    (hrow : ∀ j, j < zs.length → w.cell? ⟨r, j, none⟩ = some (.int .i64 (zs.getD j 0))) :
    Calls Tryd.prog 113 #[.pointer (some ⟨g, 0, none⟩), .slice (some ⟨r, 0, none⟩) zs.length c] w fun e w' => ∃ z : Int, z ∈ zs ∧ e = .returned (.int .i64 z) ∧ Drawn w w' g B a len cap := by
  have HD := hide hd
  have HC := hide hc
  have HR := hide hrow
  clear hd hc hrow
  go_enter Tryd.func113, Tryd.ntmps113
  go_wp2_with fail
  refine (l01Below_any g B a len cap zs.length hz (by omega) _ HC.out HD.out hB).mono ?_
  rintro e w1 ⟨x, hx, rfl, h1⟩
  have hcell : w1.cell? ⟨r, x, none⟩ = some (.int .i64 (zs.getD x 0)) := by
    rw [World.cell?_of_block (h1.2.1.block r hrl (by simpa using hr))]; exact HR.out x hx
  have hm : zs.getD x 0 ∈ zs := by rw [List.getD, List.getElem?_eq_getElem hx]; exact List.getElem_mem hx
  obtain ⟨y, hy⟩ : ∃ y, y = zs.getD x 0 := ⟨_, rfl⟩
  rw [← hy] at hcell hm
  have HM := hide hm
  have H1 := hide h1
  have hi0 : (0 : Int) ≤ (x : Int) := by omega
  have hi1 : (x : Int) < (zs.length : Int) := by omega
  clear h1 hm hy hr
  go_wp2_with fail
  go_ret
  exact ⟨y, HM.out, rfl, H1.out⟩

theorem pick_ten (g B : Nat) (a : Option Addr) (len cap r c : Nat) (zs : List Int) (hn : zs.length = 10) (w : World) (hc : CurAt w g a len cap) (hd : CodeIn w B a len) (hB : B ≤ g) (hr : r ≠ g) (hrl : r < w.heap.size)
    (hrow : ∀ j, j < zs.length → w.cell? ⟨r, j, none⟩ = some (.int .i64 (zs.getD j 0))) :
    Calls Tryd.prog 113 #[.pointer (some ⟨g, 0, none⟩), .slice (some ⟨r, 0, none⟩) 10 c] w fun e w' => ∃ z : Int, z ∈ zs ∧ e = .returned (.int .i64 z) ∧ Drawn w w' g B a len cap := by
  have h := l01PickInt_any g B a len cap zs (by omega) (by omega) r c w hc hd hB hr hrl hrow
  rw [hn] at h
  exact h

def picks : List Int := [-1, 0, 127, 128, 16383, 16384, 1000000000, 1000000001, 9223372036854775807, -9223372036854775808]

theorem picks_in (z : Int) (h : z ∈ picks) : -9223372036854775808 ≤ z ∧ z ≤ 9223372036854775807 := by
  simp only [picks, List.mem_cons, List.not_mem_nil, or_false] at h
  omega

theorem picks_at {w : World} (j : Nat) (h : j < picks.length) : (w.alloc (Obj.cells #[.int .i64 (-1), .int .i64 0, .int .i64 127, .int .i64 128, .int .i64 16383, .int .i64 16384, .int .i64 1000000000, .int .i64 1000000001, .int .i64 9223372036854775807, .int .i64 (-9223372036854775808)] 3)).cell? ⟨w.heap.size, j, none⟩ = some (.int .i64 (picks.getD j 0)) := by
  rw [World.cell?_alloc_mark]
  have e : (#[.int .i64 (-1), .int .i64 0, .int .i64 127, .int .i64 128, .int .i64 16383, .int .i64 16384, .int .i64 1000000000, .int .i64 1000000001, .int .i64 9223372036854775807, .int .i64 (-9223372036854775808)] : Array Value) = (picks.map (Value.int .i64)).toArray := rfl
  rw [e]
  simp [List.getD, h]

end Go.Proofs.YtglcfaibgjiigaaDoor

namespace Go.Proofs.YtglcfaibgjiigaaDoor
open Go.RowKit

theorem big_no (a : Option Addr) (len cap : Nat) (h : len ≤ 1048576) (w : World) : Calls Tryd.prog 11 #[.slice a len cap] w fun e w' => e = .returned (.bool false) ∧ w = w' := by
  have hq : decide ((1048576 : Int) < (len : Int)) = false := by simp; omega
  go_enter Tryd.func11, Tryd.ntmps11
  go_wp2
  go_ret
  exact ⟨rfl, rfl⟩

theorem big_yes (a : Option Addr) (len cap : Nat) (h : 1048576 < len) (w : World) : Calls Tryd.prog 11 #[.slice a len cap] w fun e w' => e = .returned (.bool true) ∧ w = w' := by
  have hq : decide ((1048576 : Int) < (len : Int)) = true := by simp; omega
  go_enter Tryd.func11, Tryd.ntmps11
  go_wp2
  go_ret
  exact ⟨rfl, rfl⟩

theorem code_below {w w' : World} {a : Option Addr} {len : Nat} (h : CodeIn w w.heap.size a len) (hb : Below w.heap.size w w') : CodeIn w' w'.heap.size a len := by
  refine ⟨h.1, ?_⟩
  rcases h.2 with h0 | ⟨b, off, e, hlt, hz⟩
  · exact Or.inl h0
  · refine Or.inr ⟨b, off, e, Nat.lt_of_lt_of_le hlt hb.size, fun j hj => ?_⟩
    obtain ⟨z, h1, h2⟩ := hz j hj
    exact ⟨z, h1, by rw [hb.cell (by exact hlt)]; exact h2⟩

theorem Tryd.infoInt : (Tryd.prog.info? 3).map (fun i => (i.zero, i.size, i.bytes)) = some (some (.int .i64 0), 1, 8) := by kernel_rfl

/-- the cells of a row of numbers -/
def intVs (zs : List Nat) : List Value := zs.map fun (z : Nat) => Value.int .i64 (z : Int)

theorem own_base {w : World} {B B' e sz n : Nat} {v : Value} {xs : List Value} (h : w.ownsRow B e sz v n xs) (hb : B' ≤ B) : w.ownsRow B' e sz v n xs := by
  refine ⟨h.1, ?_⟩
  rcases h.2 with h0 | ⟨g, cap, cur, e1, hg, rest⟩
  · exact Or.inl h0
  · exact Or.inr ⟨g, cap, cur, e1, Nat.le_trans hb hg, rest⟩

set_option maxHeartbeats 2000000 in
set_option maxRecDepth 100000 in
theorem drawPlaces_any (a : Option Addr) (len cap : Nat) (w : World) (hd : CodeIn w w.heap.size a len) :
    Calls Tryd.prog 21 #[.slice a len cap] w fun e w' => ∃ (v : Value) (zs : List Nat), zs.length = 12 ∧ (∀ z ∈ zs, z < 10000) ∧ e = .returned v ∧ w'.ownsRow w.heap.size 3 1 v 12 (intVs zs) ∧ Below w.heap.size w w' := by
  obtain ⟨i0, hi, hz0, hz1, hz2⟩ := info_parts Tryd.infoInt
  have HD := hide hd
  clear hd
  go_enter Tryd.func21, Tryd.ntmps21
  go_wp2_with fail
  refine (l01New_any a len cap _ HD.out).mono ?_
  rintro e w1 ⟨rfl, hc, hd1, hb⟩
  have HC := hide hc
  have HD1 := hide hd1
  have HB := hide hb
  clear hc hd1 hb
  go_wp2_with fail
  refine (byte_drawn w.heap.size w.heap.size a len cap _ HC.out HD1.out (Nat.le_refl _)).mono ?_
  rintro e w2 ⟨x, hx, rfl, h2⟩
  have HB2 : Hid (Below w.heap.size w w2) := hide (HB.out.grown h2.2.1 HB.out.size (fun k hk => by cases hk; exact Nat.le_refl _))
  have hgl : w.heap.size < w2.heap.size := cur_lt h2.1
  have H2 := hide h2
  clear h2
  go_wp2_with fail
  go_loopg [4, 5] 12 (fun q v iv wr => ∃ zs : List Nat, zs.length ≤ 12 ∧ iv = .int .i64 (zs.length : Int) ∧ q + zs.length = 12 ∧ wr.ownsRow w2.heap.size 3 1 v zs.length (intVs zs) ∧ Hid (∀ z ∈ zs, z < 10000) ∧ Hid (CurAt wr w.heap.size a len cap) ∧ Hid (w2.grownBy wr (some w.heap.size)))
  case atStart => exact ⟨[], by simp, rfl, rfl, by simpa [intVs] using World.ownsRow_lit (base := w2.heap.size) (e := 3) (size := 1) w2 #[] 0 (Nat.le_refl _) (by unfold maxLen; omega) (by simp), hide (fun z h => by cases h), hide (cur_grown H2.out.1 (World.grownBy_alloc w2 _ none) (by simp)), hide (World.grownBy_alloc w2 _ _)⟩
  case round =>
    obtain ⟨zs, hl, rfl, hg, hown, HZ, HCu, HGr⟩ := hrel
    have HG := hide hg
    clear hg
    have hws := HGr.out.size
    by_cases hlt : zs.length < 12
    · go_wp2_with fail
      refine (l01Below_any w.heap.size w.heap.size a len cap 10000 (by omega) (by omega) _ HCu.out (code_grown H2.out.2.2 HGr.out (Nat.le_refl _) hgl) (Nat.le_refl _)).mono ?_
      rintro e w3 ⟨x, hx, rfl, h1⟩
      have hown2 := hown.kept h1.2.1 (Or.inr (fun e => by have := (hown.lt w.heap.size e).1; omega))
      have H1 := hide h1
      have hws2 := h1.2.1.size
      clear h1 hown
      go_wp2_with (at_builtin; refine wpList_append_own _ rfl _ _ 25 rfl w2.heap.size 3 i0 (.int .i64 0) 1 8 Tryd.underlying25 hi hz0 hz1 hz2 rfl (by decide) _ _ _ rfl (hown2.alloc _) ⟨w3.heap.size, 0, none⟩ 1 1 [.int .i64 (x : Int)] rfl rfl ?c1 ?c2 ?c3 ?c4 ?c5 ?_)
      case c1 =>
        intro j u hj
        match j, hj with
        | 0, hj => simp at hj; subst hj; simp [Addr.add]
      case c2 => intro u hu; simp at hu; subst hu; rfl
      case c3 => unfold maxLen; omega
      case c4 => omega
      case c5 => simp; omega
      intro v' w4 hown3 hgrow _
      have hown4 : w4.ownsRow w2.heap.size 3 1 v' (zs ++ [x]).length (intVs (zs ++ [x])) := by
        rw [List.length_append, intVs, List.map_append]
        exact hown3
      have HGr3 : Hid (w2.grownBy w4 (some w.heap.size)) := hide (grown_app (grown_trans HGr.out H1.out.2.1) hgrow (fun k hk => (hown2.lt k hk).1))
      have HCu3 : Hid (CurAt w4 w.heap.size a len cap) := hide (cur_grown (cur_grown H1.out.1 (World.grownBy_alloc w3 _ none) (by simp)) hgrow (fun e => by have := (hown2.lt w.heap.size e.symm).1; omega))
      have HZ3 : Hid (∀ z ∈ zs ++ [x], z < 10000) := hide (fun z hz => by rcases List.mem_append.1 hz with h | h; exact HZ.out z h; (simp at h; omega))
      clear hown3 hgrow hown2
      go_wp2_with fail
      go_roundg (gk - 1)
      case measure => have := HG.out; omega
      case rel => exact ⟨zs ++ [x], by simp; omega, by rw [List.length_append]; go_num, by have := HG.out; simp; omega, hown4, HZ3, HCu3, HGr3⟩
    · have hl12 : zs.length = 12 := by omega
      rw [hl12] at hown
      go_wp2_with fail
      go_ret
      exact ⟨_, zs, hl12, HZ.out, rfl, own_base hown (by omega), HB2.out.grown HGr.out HB2.out.size (fun k hk => by cases hk; exact Nat.le_refl _)⟩
end Go.Proofs.YtglcfaibgjiigaaDoor

namespace Go.Proofs.YtglcfaibgjiigaaDoor
open Go.RowKit

set_option maxHeartbeats 1000000 in
theorem l01Pick_any (g B : Nat) (a : Option Addr) (len cap : Nat) (zs : List ByteArray) (n : Nat) (hzn : zs.length = n) (hz : 0 < n) (hz1 : n ≤ 1000) (r c : Nat) (w : World) (hc : CurAt w g a len cap) (hd : CodeIn w B a len) (hB : B ≤ g) (hr : r ≠ g) (hrl : r < w.heap.size)
    (hrow : ∀ j, j < n → w.cell? ⟨r, j, none⟩ = some (.string (zs.getD j ⟨#[]⟩))) :
    Calls Tryd.prog 142 #[.pointer (some ⟨g, 0, none⟩), .slice (some ⟨r, 0, none⟩) n c] w fun e w' => ∃ z : ByteArray, z ∈ zs ∧ e = .returned (.string z) ∧ Drawn w w' g B a len cap := by
  have HD := hide hd
  have HC := hide hc
  have HR := hide hrow
  have HZn := hide hzn
  clear hd hc hrow hzn
  go_enter Tryd.func142, Tryd.ntmps142
  go_wp2_with fail
  refine (l01Below_any g B a len cap n hz (by omega) _ HC.out HD.out hB).mono ?_
  rintro e w1 ⟨x, hx, rfl, h1⟩
  have hcell : w1.cell? ⟨r, x, none⟩ = some (.string (zs.getD x ⟨#[]⟩)) := by
    rw [World.cell?_of_block (h1.2.1.block r hrl (by simpa using hr))]; exact HR.out x hx
  have hm : zs.getD x ⟨#[]⟩ ∈ zs := by
    have hx' : x < zs.length := by rw [HZn.out]; exact hx
    rw [List.getD, List.getElem?_eq_getElem hx']; exact List.getElem_mem hx'
  obtain ⟨y, hy⟩ : ∃ y, y = zs.getD x ⟨#[]⟩ := ⟨_, rfl⟩
  rw [← hy] at hcell hm
  have HM := hide hm
  have H1 := hide h1
  have hi0 : (0 : Int) ≤ (x : Int) := by omega
  have hi1 : (x : Int) < (n : Int) := by omega
  clear h1 hm hy hr
  go_wp2_with fail
  go_ret
  exact ⟨y, HM.out, rfl, H1.out⟩

theorem drawn_drew {w w' : World} {g B : Nat} {a : Option Addr} {len cap : Nat} (h : Drawn w.drew w' g B a len cap) : Drawn w w' g B a len cap := ⟨h.1, ⟨h.2.1.os, h.2.1.tape, h.2.1.output, h.2.1.size, h.2.1.block⟩, h.2.2⟩

set_option maxHeartbeats 2000000 in
set_option maxRecDepth 100000 in
theorem l02Spoilt_any (g B : Nat) (a : Option Addr) (len cap : Nat) (s : ByteArray) (hs : s.size ≤ 100000) (w : World) (hc : CurAt w g a len cap) (hd : CodeIn w B a len) (hB : B ≤ g) :
    Calls Tryd.prog 77 #[.pointer (some ⟨g, 0, none⟩), .string s] w fun e w' => ∃ t : ByteArray, t.size ≤ s.size + 1 ∧ e = .returned (.string t) ∧ Drawn w w' g B a len cap := by
  have HD := hide hd
  have HC := hide hc
  clear hd hc
  go_enter Tryd.func77, Tryd.ntmps77
  go_wp2_with fail
  refine (l01Below_any g B a len cap 12 (by omega) (by omega) _ HC.out HD.out hB).mono ?_
  rintro e w1 ⟨x, hx, rfl, h1⟩
  have H1 := hide h1
  clear h1
  by_cases hx0 : x = 0
  · subst hx0
    go_wp2_with fail
    refine (l01Text_any g B a len cap 1 (by omega) _ H1.out.1 H1.out.2.2 hB).mono ?_
    rintro e w2 ⟨t, ht, rfl, h2⟩
    have H2 := hide (drawn_trans H1.out h2)
    have HT := hide ht
    have hts : t.size ≤ 1 := by omega
    clear h2 ht
    go_wp2_with fail
    go_ret
    exact ⟨_, by rw [ByteArray.size_append]; omega, rfl, H2.out⟩
  · have hb0 : ((0 : Int) == (x : Int)) = false := by rw [beq_eq_false_iff_ne]; omega
    by_cases hx1 : x = 1
    · subst hx1
      have HBl := hide (fun wx h h' => l01Below_any g B a len cap (s.size + 1) (by omega) (by omega) wx h h' hB)
      rw [show ((s.size + 1 : Nat) : Int) = (s.size : Int) + 1 from by omega] at HBl
      go_wp2_with fail
      refine (HBl.out _ H1.out.1 H1.out.2.2).mono ?_
      rintro e w2 ⟨y, hy, rfl, h2⟩
      have H2 := hide (drawn_trans H1.out h2)
      have hy0 : (0 : Int) ≤ (y : Int) := by omega
      have hy1 : (y : Int) ≤ (s.size : Int) := by omega
      clear h2
      go_wp2_with fail
      go_ret
      exact ⟨_, by rw [ByteArray.size_extract]; omega, rfl, H2.out⟩
    · have hb1 : ((1 : Int) == (x : Int)) = false := by rw [beq_eq_false_iff_ne]; omega
      by_cases hx2 : x = 2 ∨ x = 3
      · by_cases hs0 : 0 < s.size
        · have HBl := hide (fun wx h h' => l01Below_any g B a len cap s.size hs0 (by omega) wx h h' hB)
          have ds : decide ((0 : Int) < (s.size : Int)) = true := by simp; omega
          rcases hx2 with rfl | rfl
          all_goals (
            go_wp2_with fail
            refine (HBl.out _ H1.out.1 H1.out.2.2).mono ?_
            rintro e w2 ⟨y, hy, rfl, h2⟩
            have H2 := hide (drawn_trans H1.out h2)
            have hy0 : (0 : Int) ≤ (y : Int) := by omega
            have hy1 : (y : Int) ≤ (s.size : Int) := by omega
            have hy2 : (y : Int) + 1 ≤ (s.size : Int) := by omega
            have hwr : IntKind.i64.wrap ((y : Int) + 1) = (y : Int) + 1 := IntWalk.i64_in _ ⟨by omega, by omega⟩
            have hl1 : ∀ wx : World, (Instr.slice 9 (.string s) none (some (.int .i64 (y : Int))) none).run Tryd.prog wx = .ok (.string (s.extract 0 y)) wx := fun wx => by
              have := run_slice_string_h (P := Tryd.prog) (w := wx) (t := 9) (s := s) Tryd.underlying9 .i64 (y : Int) hy0 hy1
              rw [this, Int.toNat_natCast]
            have hl2 : ∀ wx : World, (Instr.slice 9 (.string s) (some (.int .i64 ((y : Int) + 1))) none none).run Tryd.prog wx = .ok (.string (s.extract (y + 1) s.size)) wx := fun wx => by
              have := run_slice_string_l (P := Tryd.prog) (w := wx) (t := 9) (s := s) Tryd.underlying9 .i64 ((y : Int) + 1) (by omega) hy2
              rw [this, show ((y : Int) + 1).toNat = y + 1 from by omega]
            obtain ⟨s1, hs1⟩ : ∃ s1, s1 = s.extract 0 y := ⟨_, rfl⟩
            obtain ⟨s2, hs2⟩ : ∃ s2, s2 = s.extract (y + 1) s.size := ⟨_, rfl⟩
            have hz1 : s1.size ≤ y := by rw [hs1, ByteArray.size_extract]; omega
            have hz2 : s2.size + (y + 1) ≤ s.size := by rw [hs2, ByteArray.size_extract]; omega
            rw [← hs1] at hl1
            rw [← hs2] at hl2
            clear hs1 hs2
            have HTx := hide (fun wx h h' => l01Text_any g B a len cap 1 (by omega) wx h h' hB)
            clear h2
            go_wp2_with fail
            go_region_held3 (fun _ => True) (trivial) ((go_at_call 125; refine (HTx.out _ ?_ ?_).mono ?_; exact H2.out.1; exact H2.out.2.2; rintro e w3 ⟨t, ht, rfl, h3⟩; have hts : t.size ≤ 1 := Nat.le_of_eq ht; clear ht; have ha1 : ∀ wx : World, (Op.stringOp .add s1 t).run Tryd.prog wx = .ok (.string (s1 ++ t)) wx := fun wx => run_string_add_sum wx _ _ (by omega); have ha2 : ∀ wx : World, (Op.stringOp .add (s1 ++ t) s2).run Tryd.prog wx = .ok (.string (s1 ++ t ++ s2)) wx := fun wx => run_string_add_sum wx _ _ (by rw [ByteArray.size_append]; omega)))
            have H3 := hide (drawn_trans H2.out (drawn_drew h3))
            clear h3 hl1 hl2 hwr ha1 ha2
            go_wp2_with fail
            go_ret
            exact ⟨_, by rw [ByteArray.size_append, ByteArray.size_append]; omega, rfl, H3.out⟩)
        · have ds : decide ((0 : Int) < (s.size : Int)) = false := decide_eq_false (by omega)
          rcases hx2 with rfl | rfl
          all_goals (
            go_wp2_with fail
            go_ret
            exact ⟨_, by omega, rfl, H1.out⟩)
      · have hb2 : ((2 : Int) == (x : Int)) = false := by rw [beq_eq_false_iff_ne]; omega
        have hb3 : ((3 : Int) == (x : Int)) = false := by rw [beq_eq_false_iff_ne]; omega
        go_wp2_with fail
        go_ret
        exact ⟨_, by omega, rfl, H1.out⟩

theorem pick_ints (g B : Nat) (a : Option Addr) (len cap : Nat) (zs : List Int) (n : Nat) (hn : zs.length = n) (h0 : 0 < n) (h1 : n ≤ 1000) (w : World) (r : Nat) (hr : r = w.heap.size) (hc : CurAt w g a len cap) (hd : CodeIn w B a len) (hB : B ≤ g) (cs : Array Value) (he : cs = (zs.map (Value.int .i64)).toArray) :
    Calls Tryd.prog 113 #[.pointer (some ⟨g, 0, none⟩), .slice (some ⟨r, 0, none⟩) n n] (w.alloc (Obj.cells cs 3)) fun e w' => ∃ z : Int, z ∈ zs ∧ e = .returned (.int .i64 z) ∧ Drawn w w' g B a len cap := by
  have hgl := cur_lt hc
  have hg := World.grownBy_alloc w (Obj.cells cs 3) (some g)
  subst he hn hr
  refine (l01PickInt_any g B a len cap zs h0 h1 w.heap.size zs.length _ (cur_grown hc (World.grownBy_alloc w _ none) (by simp)) (code_grown hd hg hB hgl) hB (by omega) (by simp) (fun j hj => ?_)).mono ?_
  · rw [(cell_at (heap_alloc_new w _) j).1]
    simp [List.getD, hj]
  · rintro e w2 ⟨z, hz, rfl, h2⟩
    exact ⟨z, hz, rfl, h2.1, grown_trans hg h2.2.1, h2.2.2⟩

theorem pick_strs (g B : Nat) (a : Option Addr) (len cap : Nat) (zs : List ByteArray) (n : Nat) (hn : zs.length = n) (h0 : 0 < n) (h1 : n ≤ 1000) (w : World) (r : Nat) (hr : r = w.heap.size) (hc : CurAt w g a len cap) (hd : CodeIn w B a len) (hB : B ≤ g) (cs : Array Value) (he : cs = (zs.map Value.string).toArray) :
    Calls Tryd.prog 142 #[.pointer (some ⟨g, 0, none⟩), .slice (some ⟨r, 0, none⟩) n n] (w.alloc (Obj.cells cs 9)) fun e w' => ∃ z : ByteArray, z ∈ zs ∧ e = .returned (.string z) ∧ Drawn w w' g B a len cap := by
  have hgl := cur_lt hc
  have hg := World.grownBy_alloc w (Obj.cells cs 9) (some g)
  subst he hn hr
  refine (l01Pick_any g B a len cap zs zs.length rfl h0 h1 w.heap.size zs.length _ (cur_grown hc (World.grownBy_alloc w _ none) (by simp)) (code_grown hd hg hB hgl) hB (by omega) (by simp) (fun j hj => ?_)).mono ?_
  · rw [(cell_at (heap_alloc_new w _) j).1]
    simp [List.getD, hj]
  · rintro e w2 ⟨z, hz, rfl, h2⟩
    exact ⟨z, hz, rfl, h2.1, grown_trans hg h2.2.1, h2.2.2⟩
end Go.Proofs.YtglcfaibgjiigaaDoor

namespace Go.Proofs.YtglcfaibgjiigaaDoor
open Go.RowKit

theorem drawn_lowM {w0 w1 w2 : World} {g gn B : Nat} {a : Option Addr} {len cap : Nat} (h : Drawn w0 w1 g B a len cap) (hb : Below gn w1 w2) (hle : w0.heap.size ≤ gn) (hlt : g < gn) (hB : B ≤ g) : Drawn w0 w2 g B a len cap := by
  obtain ⟨⟨i, x, hi, hc⟩, hg, hd⟩ := h
  refine ⟨⟨i, x, hi, (hb.block g hlt).trans hc⟩, grM_low hg hb hle, hd.1, ?_⟩
  rcases hd.2 with h0 | ⟨b, off, e, hbl, hz⟩
  · exact Or.inl h0
  · exact Or.inr ⟨b, off, e, hbl, fun j hj => by rw [World.cell?_of_block (hb.block b (by omega))]; exact hz j hj⟩

theorem drawn_newM {w w' : World} {g B : Nat} {a : Option Addr} {len cap : Nat} (hc : CurAt w g a len cap) (hd : CodeIn w B a len) (hB : B ≤ g) (hb : Below w.heap.size w w') : Drawn w w' g B a len cap := by
  have hg := cur_lt hc
  have hgr : w.grownBy w' (some g) := ⟨hb.os, hb.tape, hb.output, hb.size, fun k hk _ => hb.block k hk⟩
  refine ⟨?_, hgr, code_grown hd hgr hB hg⟩
  obtain ⟨i, x, hi, hblk⟩ := hc
  exact ⟨i, x, hi, (hb.block g hg).trans hblk⟩

theorem below_cellM (w : World) (b j : Nat) (u : Value) : Below b w (w.setCell ⟨b, j, none⟩ u) := (Below.refl b w).setCell (Nat.le_refl b) _

/-- n pages from q on -/
def pgsM (q n : Nat) : List Int := (List.range n).map fun k => ((q + k : Nat) : Int)

theorem pgsM_len (q n : Nat) : (pgsM q n).length = n := by simp [pgsM]

theorem pgsM_snoc (q n : Nat) : pgsM q n ++ [((q + n : Nat) : Int)] = pgsM q (n + 1) := by simp [pgsM, List.range_succ]

/-- the frees that were drawn ahead of round i; the next page is q -/
inductive DrF : Nat → Nat → List (Int × List Int) → Prop
  | start : DrF 1 4 []
  | none {i q fs} : DrF i q fs → DrF (i + 1) q fs
  | some {i q fs} (n : Nat) : DrF i q fs → 1 ≤ n → n ≤ 2 → DrF (i + 1) (q + n) (fs ++ [((i : Int), pgsM q n)])

theorem drf_len {i q : Nat} {fs : List (Int × List Int)} (h : DrF i q fs) : fs.length < i ∧ (∀ f ∈ fs, f.2.length ≤ 2) ∧ q + 2 ≤ 4 + 2 * i := by
  induction h with
  | start => exact ⟨by simp, fun f hf => by simp at hf, by omega⟩
  | none _ ih => exact ⟨by omega, ih.2.1, by omega⟩
  | some n _ h1 h2 ih =>
    refine ⟨by rw [List.length_append, List.length_singleton]; omega, fun f hf => ?_, by omega⟩
    rcases List.mem_append.1 hf with hf | hf
    · exact ih.2.1 f hf
    · rw [List.mem_singleton] at hf
      subst hf
      show (pgsM _ _).length ≤ 2
      rw [pgsM_len]; exact h2

/-- what l06Meta draws -/
def DrawnM (m : Mt) : Prop := (3 ≤ m.tx ∧ m.tx ≤ 7) ∧ (8 ≤ m.next ∧ m.next ≤ 27) ∧ (m.root = 0 ∨ m.root = 2 ∨ m.root = 3) ∧ ∃ q, DrF 3 q m.fs

def DmPost (w : World) (g B : Nat) (a : Option Addr) (len cap : Nat) (e : Ending) (w' : World) : Prop := ∃ m v, e = .returned v ∧ DrawnM m ∧ MetaOwn w' w.heap.size v m ∧ Drawn w w' g B a len cap

set_option maxHeartbeats 16000000 in
set_option maxRecDepth 100000 in
theorem l06Meta_any (g B : Nat) (a : Option Addr) (len cap : Nat) (w : World) (hc : CurAt w g a len cap) (hd : CodeIn w B a len) (hB : B ≤ g) :
    Calls Tryd.prog 89 #[.pointer (some ⟨g, 0, none⟩)] w fun e w' => DmPost w g B a len cap e w' := by
  obtain ⟨i0, hi, hz0, hz1, hz2⟩ := info_parts Tryd.intInfo
  obtain ⟨i1, hi1, hy0, hy1, hy2⟩ := info_parts Tryd.freeInfo
  have HGl : Hid (g < w.heap.size) := hide (cur_lt hc)
  obtain ⟨wa, hwa⟩ : ∃ wa, wa = w.alloc (.cells #[.int .i64 0, .int .i64 0, .int .i64 0, .slice none 0 0] 40 (0, 0)) := ⟨_, rfl⟩
  have hba : Below w.heap.size w wa := by rw [hwa]; exact (Below.refl _ _).alloc (Nat.le_refl _) _
  have HDa := hide (drawn_newM hc hd hB hba)
  have HVa : Hid (wa.heap[w.heap.size]? = some (.cells #[.int .i64 0, .int .i64 0, .int .i64 0, .slice none 0 0] 40 (0, 0))) := hide (by rw [hwa]; exact heap_alloc_new w _)
  have HSa : Hid (wa.heap.size = w.heap.size + 1) := hide (by rw [hwa]; simp)
  have HBe := hide (fun n wx h1 h2 h h' => l01Below_any g B a len cap n h1 h2 wx h h' hB)
  clear hc hd hba
  go_enter Tryd.func89, Tryd.ntmps89
  go_wp2_with fail
  try rw [← hwa]
  clear hwa
  refine (HBe.out 5 _ (by omega) (by omega) HDa.out.1 HDa.out.2.2).mono ?_
  rintro e w1 ⟨x1, hx1, rfl, hd1⟩
  have HD1 := hide hd1
  clear hd1
  go_wp2_with fail
  refine (HBe.out 20 _ (by omega) (by omega) HD1.out.1 HD1.out.2.2).mono ?_
  rintro e w2 ⟨x2, hx2, rfl, hd2⟩
  have HD2 := hide (drawn_trans HD1.out hd2)
  obtain ⟨tx, htx⟩ : ∃ tx : Int, tx = 3 + (x1 : Int) := ⟨_, rfl⟩
  obtain ⟨next, hne⟩ : ∃ next : Int, next = 8 + (x2 : Int) := ⟨_, rfl⟩
  have HTx : Hid (3 ≤ tx ∧ tx ≤ 7) := hide (by omega)
  have HNe : Hid (8 ≤ next ∧ next ≤ 27) := hide (by omega)
  obtain ⟨gm, hgm⟩ : ∃ gm, gm = w2.heap.size := ⟨_, rfl⟩
  obtain ⟨w3, hw3⟩ : ∃ w3, w3 = w2.alloc (.cells #[.int .i64 tx, .int .i64 0, .int .i64 next, .slice none 0 0] 40 (0, 0)) := ⟨_, rfl⟩
  have hb3 : Below w2.heap.size w2 w3 := by rw [hw3]; exact (Below.refl _ _).alloc (Nat.le_refl _) _
  have HM3 : Hid (MGr w3 gm tx 0 next (.slice none 0 0) [] []) := hide (by rw [hw3, hgm]; exact mgr_new w2 tx 0 next)
  have HLg : Hid (wa.heap.size ≤ gm) := hide (by rw [hgm]; exact HD2.out.2.1.size)
  have HLt : Hid (g < gm) := hide (by have h1 := HGl.out; have h2 := HLg.out; have h3 := HSa.out; omega)
  have HD3 : Hid (Drawn wa w3 g B a len cap) := hide (drawn_lowM HD2.out hb3 (by have := HD2.out.2.1.size; omega) (by have := cur_lt HD2.out.1; omega) hB)
  have HPk := hide (pick_ints g B a len cap [0, 2, 3] 3 rfl (by omega) (by omega) w3 (gm + 1) (by rw [hw3, hgm]; simp) HD3.out.1 HD3.out.2.2 hB _ rfl)
  have HGm := hide hgm
  clear hd2 hb3
  go_wp2_with fail
  rw [← htx, ← hne, ← HGm.out, ← hw3]
  clear hw3 htx hne hgm hx1 hx2
  refine HPk.out.mono ?_
  rintro e w4 ⟨root, hro, rfl, hd4⟩
  have HRt : Hid (root = 0 ∨ root = 2 ∨ root = 3) := hide (by simpa using hro)
  have HM4 := hide (mgr_grown HM3.out hd4.2.1 HLt.out)
  have HM5 := hide (mgr_root HM4.out root)
  have HD5 : Hid (Drawn wa (w4.setCell ⟨gm, 1, none⟩ (.int .i64 root)) g B a len cap) := hide (drawn_lowM (drawn_trans HD3.out hd4) (below_cellM w4 gm 1 _) HLg.out HLt.out hB)
  have c1 := (cell_at HM4.out.1 1).1
  have f1 := (cell_at HM4.out.1 1).2
  obtain ⟨w5, hw5⟩ : ∃ w5, w5 = w4.setCell ⟨gm, 1, none⟩ (.int .i64 root) := ⟨_, rfl⟩
  rw [← hw5] at HM5 HD5
  clear hd4 hro HM3 HD3 HM4 HPk
  go_wp2_with fail
  rw [← hw5]
  clear hw5 c1 f1
  go_loopg [4, 5] 2 (fun q av iv wr => ∃ (i p : Nat) (vf : Value) (l : List (Int × Value)) (fs : List (Int × List Int)), i ≤ 3 ∧ av = .int .i64 (p : Int) ∧ iv = .int .i64 (i : Int) ∧ q + i = 3 ∧ Hid (DrF i p fs) ∧ Hid (MGr wr gm tx root next vf l fs) ∧ Hid (Drawn wa wr g B a len cap))
  case atStart => exact ⟨1, 4, _, [], [], by omega, rfl, rfl, rfl, hide DrF.start, HM5, HD5⟩
  case round =>
    clear HM5 HD5
    obtain ⟨i, p, vf, l, fs, hil, rfl, rfl, hg, HDf, HMg, HDr⟩ := hrel
    have HG := hide hg
    clear hg
    obtain ⟨gq, hgq⟩ : ∃ gq, gq = gk := ⟨_, rfl⟩
    have HGQ := hide hgq
    clear hgq
    have HLen := hide (drf_len HDf.out)
    by_cases e1 : i < 3
    · have d1 : decide ((i : Int) < 3) = true := decide_eq_true (by omega)
      have hp8 : p ≤ 6 := by have := HLen.out.2.2; omega
      obtain ⟨gf, hgf⟩ : ∃ gf, gf = wr.heap.size := ⟨_, rfl⟩
      obtain ⟨w6, hw6⟩ : ∃ w6, w6 = wr.alloc (.cells #[.int .i64 (i : Int), .slice none 0 0] 110 (0, 0)) := ⟨_, rfl⟩
      have hb6 : Below wr.heap.size wr w6 := by rw [hw6]; exact (Below.refl _ _).alloc (Nat.le_refl _) _
      have HF6 : Hid (FGr w6 gm gf (i : Int) (.slice none 0 0) (pgsM p 0) vf l) := hide (by rw [hw6, hgf]; exact fgr_new HMg.out (i : Int))
      have HM6 := hide (mgr_below HMg.out hb6)
      have HD6 : Hid (Drawn wa w6 g B a len cap) := hide (drawn_lowM HDr.out hb6 (by have := HDr.out.2.1.size; omega) (by have := cur_lt HDr.out.1; omega) hB)
      have HGf := hide hgf
      clear hb6
      go_wp2_with fail
      try rw [← HGf.out]
      try rw [← hw6]
      clear hw6 hgf d1 HMg HDr
      go_loopg [4, 7] 2 (fun q av kv wi => ∃ (k r : Nat) (vp : Value), k ≤ 2 ∧ r ≤ 10 ∧ av = .int .i64 (r : Int) ∧ kv = .int .i64 (k : Int) ∧ q + k = 2 ∧ Hid (r = p + k) ∧ Hid (MGr wi gm tx root next vf l fs) ∧ Hid (FGr wi gm gf (i : Int) vp (pgsM p k) vf l) ∧ Hid (Drawn wa wi g B a len cap))
      case atStart => exact ⟨0, p, _, by omega, by omega, rfl, rfl, rfl, hide rfl, HM6, HF6, HD6⟩
      case round =>
        clear HM6 HF6 HD6
        obtain ⟨k, r, vp, hk2, hr10, rfl, rfl, hg3, HR, HMg, HFg, HDr⟩ := hrel
        have HG3 := hide hg3
        clear hg3
        have HB3 := hide (fun wx h h' => HBe.out 3 wx (by omega) (by omega) h h')
        go_wp2_with fail
        refine (HB3.out _ HDr.out.1 HDr.out.2.2).mono ?_
        rintro e w7 ⟨x, hx, rfl, hd7⟩
        have HM7 := hide (mgr_grown HMg.out hd7.2.1 HLt.out)
        have HF7 := hide (fgr_grown HFg.out hd7.2.1 HLt.out)
        have HD7 := hide (drawn_trans HDr.out hd7)
        clear hd7 HMg HFg HDr
        by_cases e2 : k < x
        · have d2 : decide ((k : Int) < (x : Int)) = true := decide_eq_true (by omega)
          have hk1 : k < 2 := by omega
          have HK2 := hide hk1
          obtain ⟨aP, cP, hvp⟩ := own_slice HF7.out.2.1
          subst hvp
          obtain ⟨NP, hNP⟩ : ∃ NP, NP = (pgsM p k).length := ⟨_, rfl⟩
          have hNk : NP = k := by rw [hNP, pgsM_len]
          have HNP := hide hNP
          have HNk := hide hNk
          have hN2 : NP ≤ 2 := by omega
          rw [← hNP] at HF7
          have HOw : Hid (w7.ownsRow (gm + 1) 3 1 (.slice aP NP cP) NP (ints (pgsM p k))) := hide (by have h := HF7.out.2.1; rw [← hNP] at h; exact h)
          have f1 := (cell_at HF7.out.1 1).1
          clear hNP hNk
          go_wp2_with (at_builtin; (refine wpList_append_lies _ rfl _ _ 25 rfl (gm + 1) 3 i0 (.int .i64 0) 1 8 Tryd.underlying25 hi hz0 hz1 hz2 rfl (by decide) _ NP (ints (pgsM p k)) rfl (HOw.out.alloc _) ⟨w7.heap.size, 0, none⟩ 1 1 [.int .i64 (r : Int)] rfl rfl (one_newM w7 _ rfl _ _) ?c1 (by decide) ?c3 ?c4 ?c5 _ rfl ?_))
          case c1 => intro u hu; simp at hu; subst hu; rfl
          case c3 => unfold maxLen; omega
          case c4 => omega
          case c5 => have := mgr_lt HM7.out; simp; omega
          intro b4 d4 w4 hown4 hg4 hb4 hl4
          have hst := page_step (x := (r : Int)) HM7.out HF7.out (by rw [← HNP.out]; exact hown4) hg4 (by simpa using hb4)
          rw [← HNP.out] at hst
          have cc4 := hst.2.2.2.1
          have cf4 := hst.2.2.2.2
          have HM8 := hide hst.1
          have HF8 : Hid (FGr (w4.setCell ⟨gf, 1, none⟩ (.slice (some ⟨b4, 0, none⟩) (NP + 1) d4)) gm gf (i : Int) (.slice (some ⟨b4, 0, none⟩) (NP + 1) d4) (pgsM p (k + 1)) vf l) := hide (by rw [← pgsM_snoc, ← HR.out]; exact hst.2.1)
          have HD8 := hide (drawn_lowM HD7.out hst.2.2.1 (by have := HLg.out; omega) (by have := HLt.out; omega) hB)
          clear hown4 hg4 hb4 hl4 hst f1
          go_wp2_with fail
          go_roundg (gk - 1)
          case measure => have := HG3.out; omega
          case rel => exact ⟨k + 1, r + 1, _, by omega, by have := HR.out; omega, by go_num, by go_num, by have := HG3.out; omega, hide (by have := HR.out; omega), HM8, HF8, HD8⟩
        · have d2 : decide ((k : Int) < (x : Int)) = false := decide_eq_false (by omega)
          obtain ⟨aP, cP, hvp⟩ := own_slice HF7.out.2.1
          subst hvp
          obtain ⟨NP, hNP⟩ : ∃ NP, NP = (pgsM p k).length := ⟨_, rfl⟩
          have hNk : NP = k := by rw [hNP, pgsM_len]
          have HNk := hide hNk
          have hN2 : NP ≤ 2 := by omega
          rw [← hNP] at HF7
          have f0 := (cell_at HF7.out.1 0).1
          have f1 := (cell_at HF7.out.1 1).1
          clear hNP
          by_cases e3 : 0 < NP
          · have d3 : decide ((0 : Int) < (NP : Int)) = true := decide_eq_true (by omega)
            have d4 : decide (0 < NP) = true := decide_eq_true e3
            have HDf2 : Hid (DrF (i + 1) r (fs ++ [((i : Int), pgsM p k)])) := hide (by rw [HR.out]; exact DrF.some k HDf.out (by omega) hk2)
            have m3 := (cell_at HM7.out.1 3).1
            have hsz := mgr_lt HM7.out
            have hownF := HM7.out.2.1
            have hfl : fs.length ≤ 3 := by have := HLen.out.1; omega
            obtain ⟨aF, cF, hvf⟩ := own_slice hownF
            subst hvf
            clear hNk
            go_wp2_with (at_builtin; (refine wpList_append_own _ rfl _ _ 38 rfl (gm + 1) 110 i1 (.agg #[.int .i64 0, .slice none 0 0]) 2 32 Tryd.underlying38 hi1 hy0 hy1 hy2 rfl (by decide) _ _ _ rfl (hownF.alloc _) ⟨w7.heap.size, 0, none⟩ 1 1 [.int .i64 (i : Int), .slice aP NP cP] rfl rfl (free_cells _ _ rfl _ _) ?c2 ?c3 ?c4 ?c5 ?_))
            case c2 => first | exact ⟨rfl, rfl⟩ | (intro u hu; simp at hu; rcases hu with rfl | rfl <;> rfl)
            case c3 => unfold maxLen; omega
            case c4 => omega
            case c5 => first | omega | (simp; omega)
            intro v8 w8 hown8 hgrow8 _
            obtain ⟨a8, c8, hv8⟩ := own_slice hown8
            subst hv8
            have hst := free_step HM7.out HF7.out hown8 hgrow8
            have cc := hst.2.2.1
            have cf := hst.2.2.2
            have HM9 := hide hst.1
            have HD9 := hide (drawn_lowM HD7.out hst.2.1 HLg.out HLt.out hB)
            clear hst hown8 hgrow8 hownF hsz f0 f1 m3
            go_wp2_with fail
            go_roundg (gq - 1)
            case measure => have h1 := HGQ.out; have h2 := HG.out; omega
            case rel => exact ⟨i + 1, r, _, _, fs ++ [((i : Int), pgsM p k)], by omega, by go_num, by go_num, by have h1 := HGQ.out; have h2 := HG.out; omega, HDf2, HM9, HD9⟩
          · have e0 : NP = 0 := by omega
            have HDf2 : Hid (DrF (i + 1) r fs) := hide (by rw [HR.out, show k = 0 by omega]; exact DrF.none HDf.out)
            clear hNk e3
            subst e0
            clear hN2
            go_wp2_with fail
            go_roundg (gq - 1)
            case measure => have h1 := HGQ.out; have h2 := HG.out; omega
            case rel => exact ⟨i + 1, r, _, _, fs, by omega, by go_num, by go_num, by have h1 := HGQ.out; have h2 := HG.out; omega, HDf2, HM7, HD7⟩
    · have hi3 : i = 3 := by omega
      subst hi3
      clear e1 hil
      have HDm : Hid (DrawnM ⟨tx, root, next, fs⟩) := hide ⟨HTx.out, HNe.out, HRt.out, p, HDf.out⟩
      have HMo := hide (mgr_own (m := ⟨tx, root, next, fs⟩) HMg.out)
      obtain ⟨aF, cF, hvf⟩ := own_slice HMg.out.2.1
      subst hvf
      obtain ⟨FL, hFL⟩ : ∃ FL, FL = fs.length := ⟨_, rfl⟩
      rw [← hFL] at HMg HMo
      have m0 := (cell_at HMg.out.1 0).1
      have m1 := (cell_at HMg.out.1 1).1
      have m2 := (cell_at HMg.out.1 2).1
      have m3 := (cell_at HMg.out.1 3).1
      have ra : wr.heap[w.heap.size]? = some (.cells #[.int .i64 0, .int .i64 0, .int .i64 0, .slice none 0 0] 40 (0, 0)) := (HDr.out.2.1.block _ (by have := HSa.out; omega) (fun e => by injection e with e; have := HGl.out; omega)).trans HVa.out
      have a0 := (cell_at ra 0).1
      have a1 := (cell_at ra 1).1
      have a2 := (cell_at ra 2).1
      have a3 := (cell_at ra 3).1
      have z0 := (cell_at ra 0).2
      have z1 := (cell_at ra 1).2
      have z2 := (cell_at ra 2).2
      have z3 := (cell_at ra 3).2
      have HRA := hide ra
      clear ra hFL
      go_wp2_with fail
      have hrt := ret_meta (m := ⟨tx, root, next, fs⟩) (vf := .slice aF FL cF) HRA.out HMo.out (by have := HLg.out; have := HSa.out; omega)
      have t0 := (cell_at hrt.1 0).1
      have t1 := (cell_at hrt.1 1).1
      have t2 := (cell_at hrt.1 2).1
      have t3 := (cell_at hrt.1 3).1
      dsimp only at t0 t1 t2 t3
      refine bodyPost_ret (v := .agg #[.int .i64 tx, .int .i64 root, .int .i64 next, .slice aF FL cF]) (by simp [results, Tryd.results89, go_sem, t0, t1, t2, t3]) rfl ⟨⟨tx, root, next, fs⟩, _, rfl, HDm.out, metaOwn_down hrt.2.1 (by have := HLg.out; have := HSa.out; omega), drawn_lowM (drawn_trans HDa.out HDr.out) hrt.2.2 (Nat.le_refl _) HGl.out hB⟩
end Go.Proofs.YtglcfaibgjiigaaDoor

namespace Go.Proofs.YtglcfaibgjiigaaDoor
open Go.RowKit

/-- a free more, made by a literal -/
theorem free_stepL {w w' : World} {gm : Nat} {tx root next ftx : Int} {vf vp v' : Value} {l : List (Int × Value)} {fs : List (Int × List Int)} {ps : List Int} {o : Obj} (hM : MGr w gm tx root next vf l fs) (hP : w.ownsRow (gm + 1) 3 1 vp ps.length (ints ps)) (f5 : ∀ (i : Nat) (p : Int × Value) (b : Nat), l[i]? = some p → p.2.ownBlock = some b → vp.ownBlock ≠ some b)
    (hown : w'.ownsRow (gm + 1) 110 2 v' (fs.length + 1) (frs l ++ [.int .i64 ftx, vp])) (hg : (w.alloc o).grownBy w' vf.ownBlock) :
    MGr (w'.setCell ⟨gm, 3, none⟩ v') gm tx root next v' (l ++ [(ftx, vp)]) (fs ++ [(ftx, ps)]) ∧ Below gm w (w'.setCell ⟨gm, 3, none⟩ v') ∧ w'.cell? ⟨gm, 3, none⟩ = some vf ∧ w'.frozen? ⟨gm, 3, none⟩ = false := by
  have hba : Below w.heap.size w (w.alloc o) := (Below.refl _ _).alloc (Nat.le_refl _) _
  have hMl := mgr_lt hM
  obtain ⟨m1, m2⟩ := mgr_below hM hba
  have f2 := own_stays hP hba
  have r2 : w'.heap[gm]? = _ := (hg.block gm (Array.getElem?_eq_some_iff.1 m1).1 (awayM (fun k e => (m2.1.lt k e).1))).trans m1
  have hs := grown_setM w' gm 3 v'
  have hbe : Below gm w w' := ((Below.refl gm w).alloc (by omega) o).grown hg (by simp; omega) (fun k e => by have := (m2.1.lt k e).1; omega)
  have p1 : w'.ownsRow (gm + 1) 3 1 vp ps.length (ints ps) := f2.kept hg (apartM (fun k e => one_type m2.1 f2 Tryd.free_int k e))
  have p2 := p1.kept hs (Or.inr (fun e => by have := (p1.lt _ e).1; omega))
  have hlen : l.length = fs.length := m2.2.1
  refine ⟨⟨heap_setCell_same w' gm 3 _ _ _ r2, ?_, ?_, ?_, ?_⟩, hbe.grown hs (by have := hbe.size; omega) (fun k e => by injection e with e; omega), (cell_at r2 3).1, (cell_at r2 3).2⟩
  · rw [List.length_append, frs_snoc]
    exact hown.kept hs (Or.inr (fun e => by have := (hown.lt _ e).1; omega))
  · simp [hlen]
  · intro i p f hi hp hf
    by_cases e : i < fs.length
    · rw [List.getElem?_append_left (by omega)] at hp
      rw [List.getElem?_append_left e] at hf
      obtain ⟨g1, g2⟩ := m2.2.2.1 i p f e hp hf
      have g3 := g2.kept hg (apartM (fun k e => one_type m2.1 g2 Tryd.free_int k e))
      exact ⟨g1, g3.kept hs (Or.inr (fun e => by have := (g3.lt _ e).1; omega))⟩
    · have hi2 : i = fs.length := by simp at hi; omega
      subst hi2
      rw [List.getElem?_append_right (by omega), hlen] at hp
      rw [List.getElem?_append_right (by omega)] at hf
      simp at hp hf
      subst hp hf
      exact ⟨rfl, p2⟩
  · intro i j p q b hi hj hp hq h1 h2
    by_cases ei : i < fs.length
    · rw [List.getElem?_append_left (by omega)] at hp
      by_cases ej : j < fs.length
      · rw [List.getElem?_append_left (by omega)] at hq
        exact m2.2.2.2 i j p q b ei ej hp hq h1 h2
      · have hj2 : j = fs.length := by simp at hj; omega
        subst hj2
        rw [List.getElem?_append_right (by omega), hlen] at hq
        simp at hq
        subst hq
        exact absurd h2 (f5 i p b hp h1)
    · have hi2 : i = fs.length := by simp at hi; omega
      by_cases ej : j < fs.length
      · rw [List.getElem?_append_left (by omega)] at hq
        subst hi2
        rw [List.getElem?_append_right (by omega), hlen] at hp
        simp at hp
        subst hp
        exact absurd h1 (f5 j q b hq h2)
      · simp at hj
        omega

/-- 'wpAnyH_take' with the slot named -/
theorem takeM {P : Program} {md : Region.Mode} {ops : Array Oper} {Q : Exit → Act → World → Prop} {S : World → Prop} (i d : Nat) {oi : Oper} (v : Value) {fuel : Nat} {listed : Array Bool} {a : Act} {w : World} (hi : ops[i]? = some oi) (hd : oi.dst = some d)
    (hs : Region.noSelect ops = true) (hf : Region.free md ops listed i = true) (hr : (Region.ready md ops listed).contains i = true)
    (hQ : ∀ c a w, Q (.panic c) (a.put oi.dst v) w → Q (.panic c) a w) (hy : YieldsIf P ops S oi v a) (hS : S w)
    (h : wpAnyH P md ops Q S fuel (listed.setIfInBounds i true) ⟨a.tmps.setIfInBounds d v, a.defers⟩ w) : wpAnyH P md ops Q S (fuel + 1) listed a w :=
  wpAnyH_take hi hs hf hr hQ hy hS (by rw [hd]; exact h)

theorem own_emptyM {w : World} {g e sz : Nat} (h : w.heap[g]? = some (.cells #[] e (0, 0))) : w.ownsRow g e sz (.slice (some ⟨g, 0, none⟩) 0 0) 0 [] :=
  ⟨by simp, Or.inr ⟨g, 0, #[], rfl, Nat.le_refl _, h, Nat.le_refl _, by unfold maxLen; omega, by simp, by simp⟩⟩

theorem take_snocM {α : Type} (l : List α) (i : Nat) (x : α) (h : l[i]? = some x) : l.take i ++ [x] = l.take (i + 1) := by rw [List.take_add_one, h]; rfl

set_option maxHeartbeats 16000000 in
set_option maxRecDepth 100000 in
theorem l06Copy_any (v : Value) (m : Mt) (hl : m.fs.length ≤ 1000) (hs : ∀ f ∈ m.fs, f.2.length ≤ 1000) (w : World) (hd : MetaAt w v m) :
    Calls Tryd.prog 128 #[v] w fun e w' => ∃ v', e = .returned v' ∧ MetaOwn w' w.heap.size v' m ∧ Below w.heap.size w w' := by
  obtain ⟨i0, hi, hz0, hz1, hz2⟩ := info_parts Tryd.intInfo
  obtain ⟨i1, hi1, hy0, hy1, hy2⟩ := info_parts Tryd.freeInfo
  obtain ⟨vf, rfl, hfr⟩ := hd
  obtain ⟨aF, cF, hvf⟩ := frees_slice hfr
  subst hvf
  obtain ⟨L, hL⟩ : ∃ L, L = m.fs.length := ⟨_, rfl⟩
  rw [← hL] at hfr hl ⊢
  have HL := hide hL
  have HFr := hide hfr
  have HSs := hide hs
  obtain ⟨tx, htx⟩ : ∃ x, x = m.tx := ⟨_, rfl⟩
  obtain ⟨root, hro⟩ : ∃ x, x = m.root := ⟨_, rfl⟩
  obtain ⟨next, hne⟩ : ∃ x, x = m.next := ⟨_, rfl⟩
  rw [← htx, ← hro, ← hne]
  have HE := hide (⟨htx, hro, hne⟩ : _ ∧ _ ∧ _)
  clear hL hfr hs htx hro hne
  go_enter Tryd.func128, Tryd.ntmps128
  go_wp2_with fail
  obtain ⟨gm, hgm⟩ : ∃ gm, gm = w.heap.size + 1 + 1 := ⟨_, rfl⟩
  rw [← hgm]
  obtain ⟨wz, hwz⟩ : ∃ wz, wz = (w.alloc (.cells #[.int .i64 tx, .int .i64 root, .int .i64 next, .slice aF L cF] 40 (0, 0))).alloc (.cells #[.int .i64 0, .int .i64 0, .int .i64 0, .slice none 0 0] 40 (0, 0)) := ⟨_, rfl⟩
  obtain ⟨wm, hwm⟩ : ∃ wm, wm = wz.alloc (.cells #[.int .i64 tx, .int .i64 root, .int .i64 next, .slice (some ⟨gm + 1, 0, none⟩) 0 0] 40 (0, 0)) := ⟨_, rfl⟩
  obtain ⟨w1, hw1⟩ : ∃ w1, w1 = wm.alloc (Obj.cells #[] 110) := ⟨_, rfl⟩
  have hzs : wz.heap.size = gm := by rw [hwz, hgm]; simp
  have hms : wm.heap.size = gm + 1 := by rw [hwm, ← hzs]; simp
  have h1s : w1.heap.size = gm + 1 + 1 := by rw [hw1, ← hms]; simp
  have b1 : Below wm.heap.size wm w1 := by rw [hw1]; exact (Below.refl _ _).alloc (Nat.le_refl _) _
  have b2 : Below wz.heap.size wz wm := by rw [hwm]; exact (Below.refl _ _).alloc (Nat.le_refl _) _
  have b3 : Below w.heap.size w wz := by rw [hwz]; exact ((Below.refl _ _).alloc (Nat.le_refl _) _).alloc (by simp) _
  have HB1 : Hid (Below w.heap.size w w1) := hide (b3.trans ((b2.mono (by omega)).trans (b1.mono (by omega))))
  have HM1 : Hid (MGr w1 gm tx root next (.slice (some ⟨gm + 1, 0, none⟩) 0 0) [] (m.fs.take 0)) := hide (by
    refine ⟨(b1.block gm (by omega)).trans (by rw [hwm, ← hzs]; exact heap_alloc_new wz _), own_emptyM (by rw [hw1, ← hms]; exact heap_alloc_new wm _), rfl, fun i p f h => by simp at h, fun i j p q b h => by simp at h⟩)
  have HA1 : Hid (w1.heap[w.heap.size]? = some (.cells #[.int .i64 tx, .int .i64 root, .int .i64 next, .slice aF L cF] 40 (0, 0))) := hide (by
    rw [(b2.trans (b1.mono (by omega))).block w.heap.size (by omega), hwz]
    exact (Below.heap_alloc _ _ _ (by simp)).trans (heap_alloc_new w _))
  have HZ1 : Hid (w1.heap[w.heap.size + 1]? = some (.cells #[.int .i64 0, .int .i64 0, .int .i64 0, .slice none 0 0] 40 (0, 0))) := hide (by
    rw [(b2.trans (b1.mono (by omega))).block (w.heap.size + 1) (by omega), hwz]
    have h := heap_alloc_new (w.alloc (.cells #[.int .i64 tx, .int .i64 root, .int .i64 next, .slice aF L cF] 40 (0, 0))) (.cells #[.int .i64 0, .int .i64 0, .int .i64 0, .slice none 0 0] 40 (0, 0))
    rw [World.size_alloc] at h
    exact h)
  have HGm := hide hgm
  rw [← hwz, ← hwm, ← hw1]
  clear hwz hwm hw1 hzs hms h1s b1 b2 b3 hgm
  go_loopg [4] L (fun q iv wr => ∃ (i : Nat) (vf : Value) (l : List (Int × Value)), i ≤ L ∧ iv = .int .i64 (i : Int) ∧ q + i = L ∧ Hid (MGr wr gm tx root next vf l (m.fs.take i)) ∧ Hid (Below gm w1 wr))
  case atStart => exact ⟨0, _, [], by omega, rfl, rfl, HM1, hide (Below.refl _ _)⟩
  case round =>
    clear HM1
    obtain ⟨i, vf, l, hil, rfl, hg, HMg, HBr⟩ := hrel
    have HG := hide hg
    clear hg
    have ca := (cell_at ((HBr.out.block w.heap.size (by have := HGm.out; omega)).trans HA1.out) 3).1
    by_cases hlt : i < L
    · obtain ⟨ftx, ps, hf⟩ : ∃ tx ps, m.fs[i]? = some (tx, ps) := ⟨_, _, List.getElem?_eq_getElem (by have := HL.out; omega)⟩
      obtain ⟨b, off, x, c, hae, hbl, hc0, hc1, hrow⟩ := frees_at HFr.out hf
      subst hae
      have hps : ps.length ≤ 1000 := HSs.out _ (List.mem_of_getElem? hf)
      have HRow := hide hrow
      have HF := hide hf
      obtain ⟨pl, hpl⟩ : ∃ pl, pl = ps.length := ⟨_, rfl⟩
      have HPl := hide hpl
      rw [← hpl] at hc1 hps
      have HSB : Hid (∀ wx, Below gm w1 wx → wx.cell? ⟨w.heap.size, 3, none⟩ = some (.slice (some ⟨b, off, none⟩) L cF) ∧ wx.cell? ⟨b, off + i * 2, none⟩ = some (.int .i64 ftx) ∧ wx.cell? ⟨b, off + i * 2 + 1, none⟩ = some (.slice x pl c)) := hide (fun wx h => by
        have hb := HB1.out.trans (h.mono (by have := HGm.out; omega))
        exact ⟨(cell_at ((h.block w.heap.size (by have := HGm.out; omega)).trans HA1.out) 3).1, by rw [hb.cell (by exact hbl)]; exact hc0, by rw [hb.cell (by exact hbl)]; exact hc1⟩)
      have hi0 : (0 : Int) ≤ (i : Int) := by omega
      have hi1' : (i : Int) < (L : Int) := by omega
      clear hf hrow hc0 hc1 hpl
      have HFl : Hid ((m.fs.take i).length = i) := hide (by rw [List.length_take]; have := HL.out; omega)
      obtain ⟨aO, cO, hvf⟩ := own_slice HMg.out.2.1
      subst hvf
      rw [HFl.out] at HMg
      have HGs : Hid (gm < wr.heap.size) := hide (mgr_lt HMg.out)
      have hS0 := HSB.out wr HBr.out
      have HSal := hide (fun o => HSB.out (wr.drew.alloc o) (HBr.out.drew.alloc (show gm ≤ wr.heap.size by have := HGs.out; omega) o))
      have cm := (cell_at HMg.out.1 3).1
      have cmo : ∀ o, (wr.drew.alloc o).cell? ⟨gm, 3, none⟩ = some (.slice aO i cO) := fun o => (cell_at ((((Below.refl wr.heap.size wr).drew.alloc (Nat.le_refl _) o).block gm HGs.out).trans HMg.out.1) 3).1
      have cmp : ∀ o, (wr.alloc o).cell? ⟨gm, 3, none⟩ = some (.slice aO i cO) := fun o => cmo o
      have HRd : Hid (∀ o, RowAt (wr.drew.alloc o) 1 (.slice x pl c) pl (ints ps)) := hide (fun o => by rw [HPl.out]; exact row_below HRow.out (HB1.out.trans ((HBr.out.drew.alloc (show gm ≤ wr.heap.size by have := HGs.out; omega) o).mono (by have := HGm.out; omega))))
      have HBA : Hid (∀ o wA, (wr.drew.alloc o).grownBy wA (some wr.heap.size) → Below wr.heap.size wr wA) := hide (fun o wA h => ((Below.refl wr.heap.size wr).drew.alloc (Nat.le_refl _) o).grown h (by rw [World.size_alloc]; exact Nat.le_succ _) (fun k e => by injection e with e; omega))
      go_wp2_with fail
      refine wp_region_held_drew (S := fun wx => wx.cell? ⟨w.heap.size, 3, none⟩ = some (.slice (some ⟨b, off, none⟩) L cF) ∧ wx.cell? ⟨b, off + i * 2, none⟩ = some (.int .i64 ftx) ∧ wx.cell? ⟨b, off + i * 2 + 1, none⟩ = some (.slice x pl c)) (by kernel_rfl) hS0 (fun hHeld => ?_)
      refine takeM 0 15 ?_ rfl rfl (by kernel_rfl) (by kernel_rfl) (by kernel_rfl) (fun _ _ _ h => h) (Or.inl ⟨by rfl, ?_⟩) hHeld ?_
      rotate_left
      · (intro wx hSw; (try dsimp only at hSw); go_simp; try with_reducible rfl)
      simp only [List.setIfInBounds_toArray, List.set_cons_zero, List.set_cons_succ]
      refine takeM 2 17 ?_ rfl rfl (by kernel_rfl) (by kernel_rfl) (by kernel_rfl) (fun _ _ _ h => h) (Or.inl ⟨by rfl, ?_⟩) hHeld ?_
      rotate_left
      · (intro wx hSw; (try dsimp only at hSw); go_simp; try with_reducible rfl)
      simp only [List.setIfInBounds_toArray, List.set_cons_zero, List.set_cons_succ]
      refine takeM 3 18 ?_ rfl rfl (by kernel_rfl) (by kernel_rfl) (by kernel_rfl) (fun _ _ _ h => h) (Or.inl ⟨by rfl, ?_⟩) hHeld ?_
      rotate_left
      · (intro wx hSw; (try dsimp only at hSw); go_simp; try with_reducible rfl)
      simp only [List.setIfInBounds_toArray, List.set_cons_zero, List.set_cons_succ]
      refine takeM 4 19 ?_ rfl rfl (by kernel_rfl) (by kernel_rfl) (by kernel_rfl) (fun _ _ _ h => h) (Or.inl ⟨by rfl, ?_⟩) hHeld ?_
      rotate_left
      · (intro wx hSw; (try dsimp only at hSw); go_simp; try with_reducible rfl)
      simp only [List.setIfInBounds_toArray, List.set_cons_zero, List.set_cons_succ]
      refine takeM 5 20 ?_ rfl rfl (by kernel_rfl) (by kernel_rfl) (by kernel_rfl) (fun _ _ _ h => h) (Or.inl ⟨by rfl, ?_⟩) hHeld ?_
      rotate_left
      · (intro wx hSw; (try dsimp only at hSw); go_simp; try with_reducible rfl)
      simp only [List.setIfInBounds_toArray, List.set_cons_zero, List.set_cons_succ]
      refine takeM 6 21 ?_ rfl rfl (by kernel_rfl) (by kernel_rfl) (by kernel_rfl) (fun _ _ _ h => h) (Or.inl ⟨by rfl, ?_⟩) hHeld ?_
      rotate_left
      · (intro wx hSw; (try dsimp only at hSw); go_simp; try with_reducible rfl)
      simp only [List.setIfInBounds_toArray, List.set_cons_zero, List.set_cons_succ]
      refine takeM 7 22 ?_ rfl rfl (by kernel_rfl) (by kernel_rfl) (by kernel_rfl) (fun _ _ _ h => h) (Or.inl ⟨by rfl, ?_⟩) hHeld ?_
      rotate_left
      · (intro wx hSw; (try dsimp only at hSw); go_simp; try with_reducible rfl)
      simp only [List.setIfInBounds_toArray, List.set_cons_zero, List.set_cons_succ]
      refine takeM 9 24 ?_ rfl rfl (by kernel_rfl) (by kernel_rfl) (by kernel_rfl) (fun _ _ _ h => h) (Or.inl ⟨by rfl, ?_⟩) hHeld ?_
      rotate_left
      · (intro wx hSw; (try dsimp only at hSw); go_simp; try with_reducible rfl)
      simp only [List.setIfInBounds_toArray, List.set_cons_zero, List.set_cons_succ]
      refine takeM 10 25 ?_ rfl rfl (by kernel_rfl) (by kernel_rfl) (by kernel_rfl) (fun _ _ _ h => h) (Or.inl ⟨by rfl, ?_⟩) hHeld ?_
      rotate_left
      · (intro wx hSw; (try dsimp only at hSw); go_simp; try with_reducible rfl)
      simp only [List.setIfInBounds_toArray, List.set_cons_zero, List.set_cons_succ]
      refine takeM 11 26 ?_ rfl rfl (by kernel_rfl) (by kernel_rfl) (by kernel_rfl) (fun _ _ _ h => h) (Or.inl ⟨by rfl, ?_⟩) hHeld ?_
      rotate_left
      · (intro wx hSw; (try dsimp only at hSw); go_simp; try with_reducible rfl)
      simp only [List.setIfInBounds_toArray, List.set_cons_zero, List.set_cons_succ]
      refine takeM 12 27 ?_ rfl rfl (by kernel_rfl) (by kernel_rfl) (by kernel_rfl) (fun _ _ _ h => h) (Or.inl ⟨by rfl, ?_⟩) hHeld ?_
      rotate_left
      · (intro wx hSw; (try dsimp only at hSw); go_simp; try with_reducible rfl)
      simp only [List.setIfInBounds_toArray, List.set_cons_zero, List.set_cons_succ]
      refine takeM 13 28 ?_ rfl rfl (by kernel_rfl) (by kernel_rfl) (by kernel_rfl) (fun _ _ _ h => h) (Or.inl ⟨by rfl, ?_⟩) hHeld ?_
      rotate_left
      · (intro wx hSw; (try dsimp only at hSw); go_simp; try with_reducible rfl)
      simp only [List.setIfInBounds_toArray, List.set_cons_zero, List.set_cons_succ]
      refine takeM 14 29 ?_ rfl rfl (by kernel_rfl) (by kernel_rfl) (by kernel_rfl) (fun _ _ _ h => h) (Or.inl ⟨by rfl, ?_⟩) hHeld ?_
      rotate_left
      · (intro wx hSw; (try dsimp only at hSw); go_simp; try with_reducible rfl)
      simp only [List.setIfInBounds_toArray, List.set_cons_zero, List.set_cons_succ]
      refine wpAnyH_ready (rs := [1, 8]) (by kernel_rfl) (by simp) ?_
      refine AllReadyH.cons rfl (fun K hK => ?_) ?_
      · go_simp
        refine hK.out _ _ hHeld (fun hHeld => ?_)
        clear hK K
        refine wpAnyH_ready (rs := [8]) (by kernel_rfl) (by simp) ?_
        refine AllReadyH.cons rfl (fun K hK => ?_) ?_
        · go_simp
          refine hK.out _ _ (HSal.out _) (fun hHeld => ?_)
          clear hK K
          refine wpAnyH_ready (rs := [15]) (by kernel_rfl) (by simp) ?_
          refine AllReadyH.cons rfl (fun K hK => ?_) ?_
          · (refine step_append_row _ ?_ (.tmp 23) (.tmp 29) 25 ?_ wr.heap.size 3 i0 (.int .i64 0) 1 8 Tryd.underlying25 hi hz0 hz1 hz2 ?_ ?_ (.slice (some ⟨wr.heap.size, 0, none⟩) 0 0) 0 [] ?_ (own_emptyM ?_) (.slice x pl c) pl (ints ps) ?_ (HRd.out _) (ints_one _) ?_ ?_ ?_ ?_; exact rfl; exact rfl; exact rfl; decide; exact rfl; exact heap_alloc_new wr.drew _; exact rfl; (unfold maxLen; omega); omega; exact Nat.le_of_lt (by rw [show ∀ z : World, z.drew.heap.size = z.heap.size from fun _ => rfl, World.size_alloc]; exact Nat.lt_succ_self _); intro y1 d1 wA hownA hgA; rw [Nat.zero_add] at hownA ⊢; rw [List.nil_append] at hownA; have hbA := HBA.out _ wA hgA; have HMa := hide (mgr_below HMg.out hbA); have HPa : Hid (wA.ownsRow (gm + 1) 3 1 (.slice y1 pl d1) ps.length (ints ps)) := hide (by rw [← HPl.out]; exact own_down hownA (by have := HGs.out; omega)); have HFa : Hid (∀ (j : Nat) (p : Int × Value) (b : Nat), l[j]? = some p → p.2.ownBlock = some b → (Value.slice y1 pl d1).ownBlock ≠ some b) := hide (fun j p b hp e1 e2 => by have h1 := (ownF_lt HMg.out.2 b (Or.inr ⟨j, p, hp, e1⟩)).2; have h2 := (hownA.lt b e2).1; omega); have HBa : Hid (Below gm w1 wA) := hide (HBr.out.trans (hbA.mono (by have h1 := HGs.out; have h2 := HBr.out.size; omega))); have hSa := HSB.out wA HBa.out; have HGa : Hid (gm < wA.heap.size) := hide (mgr_lt HMa.out); have HSa2 := hide (fun o => HSB.out (wA.alloc o) (HBa.out.alloc (by have := HGa.out; omega) o)); have cma := (cell_at HMa.out.1 3).1; have cmao : ∀ o, (wA.alloc o).cell? ⟨gm, 3, none⟩ = some (.slice aO i cO) := fun o => (cell_at ((((Below.refl wA.heap.size wA).alloc (Nat.le_refl _) o).block gm HGa.out).trans HMa.out.1) 3).1; have HOa : Hid (∀ o, (wA.alloc o).ownsRow (gm + 1) 110 2 (.slice aO i cO) i (frs l)) := hide (fun o => by have h := HMa.out.2.1.alloc o; rw [HFl.out] at h; exact h); clear hownA hgA hbA)
            refine hK.out (Act.put _ (some 30) _) _ hSa (fun hHeld => ?_)
            clear hK K
            simp only [Act.put, List.setIfInBounds_toArray, List.set_cons_zero, List.set_cons_succ]
            refine takeM 16 31 ?_ rfl rfl (by kernel_rfl) (by kernel_rfl) (by kernel_rfl) (fun _ _ _ h => h) (Or.inl ⟨by rfl, ?_⟩) hHeld ?_
            rotate_left
            · (intro wx hSw; (try dsimp only at hSw); go_simp; try with_reducible rfl)
            simp only [List.setIfInBounds_toArray, List.set_cons_zero, List.set_cons_succ]
            refine wpAnyH_ready (rs := [17]) (by kernel_rfl) (by simp) ?_
            refine AllReadyH.cons rfl (fun K hK => ?_) ?_
            · go_simp
              refine hK.out _ _ (HSa2.out _) (fun hHeld => ?_)
              clear hK K
              refine wpAnyH_ready (rs := [18]) (by kernel_rfl) (by simp) ?_
              refine AllReadyH.cons rfl (fun K hK => ?_) ?_
              · (refine step_append_lies _ ?_ (.tmp 16) (.tmp 32) 38 ?_ (gm + 1) 110 i1 (.agg #[.int .i64 0, .slice none 0 0]) 2 32 Tryd.underlying38 hi1 hy0 hy1 hy2 ?_ ?_ (.slice aO i cO) i (frs l) ?_ (HOa.out _) ⟨wA.heap.size, 0, none⟩ 1 1 [.int .i64 ftx, .slice y1 pl d1] ?_ ?_ (free_cells wA _ rfl _ _) ?_ ?_ ?_ ?_ ?_ _ rfl ?_; exact rfl; exact rfl; exact rfl; decide; exact rfl; exact rfl; exact rfl; (intro u hu; simp at hu; rcases hu with rfl | rfl <;> rfl); decide; (unfold maxLen; omega); omega; (have := HGa.out; simp; omega); intro b4 d4 wB hownB hgB hbB hlB; have hst := free_stepL HMa.out HPa.out HFa.out (by rw [HFl.out]; exact hownB) hgB; have cc := hst.2.2.1; have cf := hst.2.2.2; have HMb := hide hst.1; have HBb : Hid (Below gm w1 (wB.setCell ⟨gm, 3, none⟩ (.slice (some ⟨b4, 0, none⟩) (i + 1) d4))) := hide (HBa.out.trans hst.2.1); have hSb := HSB.out wB (HBa.out.trans (((Below.refl gm wA).alloc (by have := HGa.out; omega) _).grown hgB (by have := HGa.out; simp; omega) (fun k e => by have := (HMa.out.2.1.lt k e).1; omega))); have hSs := HSB.out _ HBb.out; clear hownB hgB hbB hlB hst)
                refine hK.out (Act.put _ (some 33) _) _ hSb (fun hHeld => ?_)
                clear hK K
                simp only [Act.put, List.setIfInBounds_toArray, List.set_cons_zero, List.set_cons_succ]
                refine takeM 19 34 ?_ rfl rfl (by kernel_rfl) (by kernel_rfl) (by kernel_rfl) (fun _ _ _ h => h) (Or.inl ⟨by rfl, ?_⟩) hHeld ?_
                rotate_left
                · (intro wx hSw; (try dsimp only at hSw); go_simp; try with_reducible rfl)
                simp only [List.setIfInBounds_toArray, List.set_cons_zero, List.set_cons_succ]
                refine wpAnyH_ready (rs := [20]) (by kernel_rfl) (by simp) ?_
                refine AllReadyH.cons rfl (fun K hK => ?_) ?_
                · go_simp
                  refine hK.out _ _ hSs (fun hHeld => ?_)
                  clear hK K
                  refine wpAnyH_done (by kernel_rfl) ?_ _
                  have HMc : Hid (MGr (wB.setCell ⟨gm, 3, none⟩ (.slice (some ⟨b4, 0, none⟩) (i + 1) d4)) gm tx root next (.slice (some ⟨b4, 0, none⟩) (i + 1) d4) (l ++ [(ftx, .slice y1 pl d1)]) (m.fs.take (i + 1))) := hide (by rw [← take_snocM m.fs i _ HF.out]; exact HMb.out)
                  go_wp2_with fail
                  go_roundg (gk - 1)
                  case measure => have := HG.out; omega
                  case rel => exact ⟨i + 1, _, _, by omega, by go_num, by have := HG.out; omega, HMc, HBb⟩
                exact AllReadyH.nil
              exact AllReadyH.nil
            exact AllReadyH.nil
          exact AllReadyH.nil
        exact AllReadyH.nil
      refine AllReadyH.cons rfl (fun K hK => ?_) ?_
      · go_simp
        refine hK.out _ _ (HSal.out _) (fun hHeld => ?_)
        clear hK K
        refine wpAnyH_ready (rs := [1, 15]) (by kernel_rfl) (by simp) ?_
        refine AllReadyH.cons rfl (fun K hK => ?_) ?_
        · go_simp
          refine hK.out _ _ hHeld (fun hHeld => ?_)
          clear hK K
          refine wpAnyH_ready (rs := [15]) (by kernel_rfl) (by simp) ?_
          refine AllReadyH.cons rfl (fun K hK => ?_) ?_
          · (refine step_append_row _ ?_ (.tmp 23) (.tmp 29) 25 ?_ wr.heap.size 3 i0 (.int .i64 0) 1 8 Tryd.underlying25 hi hz0 hz1 hz2 ?_ ?_ (.slice (some ⟨wr.heap.size, 0, none⟩) 0 0) 0 [] ?_ (own_emptyM ?_) (.slice x pl c) pl (ints ps) ?_ (HRd.out _) (ints_one _) ?_ ?_ ?_ ?_; exact rfl; exact rfl; exact rfl; decide; exact rfl; exact heap_alloc_new wr.drew _; exact rfl; (unfold maxLen; omega); omega; exact Nat.le_of_lt (by rw [show ∀ z : World, z.drew.heap.size = z.heap.size from fun _ => rfl, World.size_alloc]; exact Nat.lt_succ_self _); intro y1 d1 wA hownA hgA; rw [Nat.zero_add] at hownA ⊢; rw [List.nil_append] at hownA; have hbA := HBA.out _ wA hgA; have HMa := hide (mgr_below HMg.out hbA); have HPa : Hid (wA.ownsRow (gm + 1) 3 1 (.slice y1 pl d1) ps.length (ints ps)) := hide (by rw [← HPl.out]; exact own_down hownA (by have := HGs.out; omega)); have HFa : Hid (∀ (j : Nat) (p : Int × Value) (b : Nat), l[j]? = some p → p.2.ownBlock = some b → (Value.slice y1 pl d1).ownBlock ≠ some b) := hide (fun j p b hp e1 e2 => by have h1 := (ownF_lt HMg.out.2 b (Or.inr ⟨j, p, hp, e1⟩)).2; have h2 := (hownA.lt b e2).1; omega); have HBa : Hid (Below gm w1 wA) := hide (HBr.out.trans (hbA.mono (by have h1 := HGs.out; have h2 := HBr.out.size; omega))); have hSa := HSB.out wA HBa.out; have HGa : Hid (gm < wA.heap.size) := hide (mgr_lt HMa.out); have HSa2 := hide (fun o => HSB.out (wA.alloc o) (HBa.out.alloc (by have := HGa.out; omega) o)); have cma := (cell_at HMa.out.1 3).1; have cmao : ∀ o, (wA.alloc o).cell? ⟨gm, 3, none⟩ = some (.slice aO i cO) := fun o => (cell_at ((((Below.refl wA.heap.size wA).alloc (Nat.le_refl _) o).block gm HGa.out).trans HMa.out.1) 3).1; have HOa : Hid (∀ o, (wA.alloc o).ownsRow (gm + 1) 110 2 (.slice aO i cO) i (frs l)) := hide (fun o => by have h := HMa.out.2.1.alloc o; rw [HFl.out] at h; exact h); clear hownA hgA hbA)
            refine hK.out (Act.put _ (some 30) _) _ hSa (fun hHeld => ?_)
            clear hK K
            simp only [Act.put, List.setIfInBounds_toArray, List.set_cons_zero, List.set_cons_succ]
            refine takeM 16 31 ?_ rfl rfl (by kernel_rfl) (by kernel_rfl) (by kernel_rfl) (fun _ _ _ h => h) (Or.inl ⟨by rfl, ?_⟩) hHeld ?_
            rotate_left
            · (intro wx hSw; (try dsimp only at hSw); go_simp; try with_reducible rfl)
            simp only [List.setIfInBounds_toArray, List.set_cons_zero, List.set_cons_succ]
            refine wpAnyH_ready (rs := [17]) (by kernel_rfl) (by simp) ?_
            refine AllReadyH.cons rfl (fun K hK => ?_) ?_
            · go_simp
              refine hK.out _ _ (HSa2.out _) (fun hHeld => ?_)
              clear hK K
              refine wpAnyH_ready (rs := [18]) (by kernel_rfl) (by simp) ?_
              refine AllReadyH.cons rfl (fun K hK => ?_) ?_
              · (refine step_append_lies _ ?_ (.tmp 16) (.tmp 32) 38 ?_ (gm + 1) 110 i1 (.agg #[.int .i64 0, .slice none 0 0]) 2 32 Tryd.underlying38 hi1 hy0 hy1 hy2 ?_ ?_ (.slice aO i cO) i (frs l) ?_ (HOa.out _) ⟨wA.heap.size, 0, none⟩ 1 1 [.int .i64 ftx, .slice y1 pl d1] ?_ ?_ (free_cells wA _ rfl _ _) ?_ ?_ ?_ ?_ ?_ _ rfl ?_; exact rfl; exact rfl; exact rfl; decide; exact rfl; exact rfl; exact rfl; (intro u hu; simp at hu; rcases hu with rfl | rfl <;> rfl); decide; (unfold maxLen; omega); omega; (have := HGa.out; simp; omega); intro b4 d4 wB hownB hgB hbB hlB; have hst := free_stepL HMa.out HPa.out HFa.out (by rw [HFl.out]; exact hownB) hgB; have cc := hst.2.2.1; have cf := hst.2.2.2; have HMb := hide hst.1; have HBb : Hid (Below gm w1 (wB.setCell ⟨gm, 3, none⟩ (.slice (some ⟨b4, 0, none⟩) (i + 1) d4))) := hide (HBa.out.trans hst.2.1); have hSb := HSB.out wB (HBa.out.trans (((Below.refl gm wA).alloc (by have := HGa.out; omega) _).grown hgB (by have := HGa.out; simp; omega) (fun k e => by have := (HMa.out.2.1.lt k e).1; omega))); have hSs := HSB.out _ HBb.out; clear hownB hgB hbB hlB hst)
                refine hK.out (Act.put _ (some 33) _) _ hSb (fun hHeld => ?_)
                clear hK K
                simp only [Act.put, List.setIfInBounds_toArray, List.set_cons_zero, List.set_cons_succ]
                refine takeM 19 34 ?_ rfl rfl (by kernel_rfl) (by kernel_rfl) (by kernel_rfl) (fun _ _ _ h => h) (Or.inl ⟨by rfl, ?_⟩) hHeld ?_
                rotate_left
                · (intro wx hSw; (try dsimp only at hSw); go_simp; try with_reducible rfl)
                simp only [List.setIfInBounds_toArray, List.set_cons_zero, List.set_cons_succ]
                refine wpAnyH_ready (rs := [20]) (by kernel_rfl) (by simp) ?_
                refine AllReadyH.cons rfl (fun K hK => ?_) ?_
                · go_simp
                  refine hK.out _ _ hSs (fun hHeld => ?_)
                  clear hK K
                  refine wpAnyH_done (by kernel_rfl) ?_ _
                  have HMc : Hid (MGr (wB.setCell ⟨gm, 3, none⟩ (.slice (some ⟨b4, 0, none⟩) (i + 1) d4)) gm tx root next (.slice (some ⟨b4, 0, none⟩) (i + 1) d4) (l ++ [(ftx, .slice y1 pl d1)]) (m.fs.take (i + 1))) := hide (by rw [← take_snocM m.fs i _ HF.out]; exact HMb.out)
                  go_wp2_with fail
                  go_roundg (gk - 1)
                  case measure => have := HG.out; omega
                  case rel => exact ⟨i + 1, _, _, by omega, by go_num, by have := HG.out; omega, HMc, HBb⟩
                exact AllReadyH.nil
              exact AllReadyH.nil
            exact AllReadyH.nil
          exact AllReadyH.nil
        refine AllReadyH.cons rfl (fun K hK => ?_) ?_
        · (refine step_append_row _ ?_ (.tmp 23) (.tmp 29) 25 ?_ wr.heap.size 3 i0 (.int .i64 0) 1 8 Tryd.underlying25 hi hz0 hz1 hz2 ?_ ?_ (.slice (some ⟨wr.heap.size, 0, none⟩) 0 0) 0 [] ?_ (own_emptyM ?_) (.slice x pl c) pl (ints ps) ?_ (HRd.out _) (ints_one _) ?_ ?_ ?_ ?_; exact rfl; exact rfl; exact rfl; decide; exact rfl; exact heap_alloc_new wr.drew _; exact rfl; (unfold maxLen; omega); omega; exact Nat.le_of_lt (by rw [show ∀ z : World, z.drew.heap.size = z.heap.size from fun _ => rfl, World.size_alloc]; exact Nat.lt_succ_self _); intro y1 d1 wA hownA hgA; rw [Nat.zero_add] at hownA ⊢; rw [List.nil_append] at hownA; have hbA := HBA.out _ wA hgA; have HMa := hide (mgr_below HMg.out hbA); have HPa : Hid (wA.ownsRow (gm + 1) 3 1 (.slice y1 pl d1) ps.length (ints ps)) := hide (by rw [← HPl.out]; exact own_down hownA (by have := HGs.out; omega)); have HFa : Hid (∀ (j : Nat) (p : Int × Value) (b : Nat), l[j]? = some p → p.2.ownBlock = some b → (Value.slice y1 pl d1).ownBlock ≠ some b) := hide (fun j p b hp e1 e2 => by have h1 := (ownF_lt HMg.out.2 b (Or.inr ⟨j, p, hp, e1⟩)).2; have h2 := (hownA.lt b e2).1; omega); have HBa : Hid (Below gm w1 wA) := hide (HBr.out.trans (hbA.mono (by have h1 := HGs.out; have h2 := HBr.out.size; omega))); have hSa := HSB.out wA HBa.out; have HGa : Hid (gm < wA.heap.size) := hide (mgr_lt HMa.out); have HSa2 := hide (fun o => HSB.out (wA.alloc o) (HBa.out.alloc (by have := HGa.out; omega) o)); have cma := (cell_at HMa.out.1 3).1; have cmao : ∀ o, (wA.alloc o).cell? ⟨gm, 3, none⟩ = some (.slice aO i cO) := fun o => (cell_at ((((Below.refl wA.heap.size wA).alloc (Nat.le_refl _) o).block gm HGa.out).trans HMa.out.1) 3).1; have HOa : Hid (∀ o, (wA.alloc o).ownsRow (gm + 1) 110 2 (.slice aO i cO) i (frs l)) := hide (fun o => by have h := HMa.out.2.1.alloc o; rw [HFl.out] at h; exact h); clear hownA hgA hbA)
          refine hK.out (Act.put _ (some 30) _) _ hSa (fun hHeld => ?_)
          clear hK K
          simp only [Act.put, List.setIfInBounds_toArray, List.set_cons_zero, List.set_cons_succ]
          refine takeM 16 31 ?_ rfl rfl (by kernel_rfl) (by kernel_rfl) (by kernel_rfl) (fun _ _ _ h => h) (Or.inl ⟨by rfl, ?_⟩) hHeld ?_
          rotate_left
          · (intro wx hSw; (try dsimp only at hSw); go_simp; try with_reducible rfl)
          simp only [List.setIfInBounds_toArray, List.set_cons_zero, List.set_cons_succ]
          refine wpAnyH_ready (rs := [1, 17]) (by kernel_rfl) (by simp) ?_
          refine AllReadyH.cons rfl (fun K hK => ?_) ?_
          · go_simp
            refine hK.out _ _ hHeld (fun hHeld => ?_)
            clear hK K
            refine wpAnyH_ready (rs := [17]) (by kernel_rfl) (by simp) ?_
            refine AllReadyH.cons rfl (fun K hK => ?_) ?_
            · go_simp
              refine hK.out _ _ (HSa2.out _) (fun hHeld => ?_)
              clear hK K
              refine wpAnyH_ready (rs := [18]) (by kernel_rfl) (by simp) ?_
              refine AllReadyH.cons rfl (fun K hK => ?_) ?_
              · (refine step_append_lies _ ?_ (.tmp 16) (.tmp 32) 38 ?_ (gm + 1) 110 i1 (.agg #[.int .i64 0, .slice none 0 0]) 2 32 Tryd.underlying38 hi1 hy0 hy1 hy2 ?_ ?_ (.slice aO i cO) i (frs l) ?_ (HOa.out _) ⟨wA.heap.size, 0, none⟩ 1 1 [.int .i64 ftx, .slice y1 pl d1] ?_ ?_ (free_cells wA _ rfl _ _) ?_ ?_ ?_ ?_ ?_ _ rfl ?_; exact rfl; exact rfl; exact rfl; decide; exact rfl; exact rfl; exact rfl; (intro u hu; simp at hu; rcases hu with rfl | rfl <;> rfl); decide; (unfold maxLen; omega); omega; (have := HGa.out; simp; omega); intro b4 d4 wB hownB hgB hbB hlB; have hst := free_stepL HMa.out HPa.out HFa.out (by rw [HFl.out]; exact hownB) hgB; have cc := hst.2.2.1; have cf := hst.2.2.2; have HMb := hide hst.1; have HBb : Hid (Below gm w1 (wB.setCell ⟨gm, 3, none⟩ (.slice (some ⟨b4, 0, none⟩) (i + 1) d4))) := hide (HBa.out.trans hst.2.1); have hSb := HSB.out wB (HBa.out.trans (((Below.refl gm wA).alloc (by have := HGa.out; omega) _).grown hgB (by have := HGa.out; simp; omega) (fun k e => by have := (HMa.out.2.1.lt k e).1; omega))); have hSs := HSB.out _ HBb.out; clear hownB hgB hbB hlB hst)
                refine hK.out (Act.put _ (some 33) _) _ hSb (fun hHeld => ?_)
                clear hK K
                simp only [Act.put, List.setIfInBounds_toArray, List.set_cons_zero, List.set_cons_succ]
                refine takeM 19 34 ?_ rfl rfl (by kernel_rfl) (by kernel_rfl) (by kernel_rfl) (fun _ _ _ h => h) (Or.inl ⟨by rfl, ?_⟩) hHeld ?_
                rotate_left
                · (intro wx hSw; (try dsimp only at hSw); go_simp; try with_reducible rfl)
                simp only [List.setIfInBounds_toArray, List.set_cons_zero, List.set_cons_succ]
                refine wpAnyH_ready (rs := [20]) (by kernel_rfl) (by simp) ?_
                refine AllReadyH.cons rfl (fun K hK => ?_) ?_
                · go_simp
                  refine hK.out _ _ hSs (fun hHeld => ?_)
                  clear hK K
                  refine wpAnyH_done (by kernel_rfl) ?_ _
                  have HMc : Hid (MGr (wB.setCell ⟨gm, 3, none⟩ (.slice (some ⟨b4, 0, none⟩) (i + 1) d4)) gm tx root next (.slice (some ⟨b4, 0, none⟩) (i + 1) d4) (l ++ [(ftx, .slice y1 pl d1)]) (m.fs.take (i + 1))) := hide (by rw [← take_snocM m.fs i _ HF.out]; exact HMb.out)
                  go_wp2_with fail
                  go_roundg (gk - 1)
                  case measure => have := HG.out; omega
                  case rel => exact ⟨i + 1, _, _, by omega, by go_num, by have := HG.out; omega, HMc, HBb⟩
                exact AllReadyH.nil
              exact AllReadyH.nil
            exact AllReadyH.nil
          refine AllReadyH.cons rfl (fun K hK => ?_) ?_
          · go_simp
            refine hK.out _ _ (HSa2.out _) (fun hHeld => ?_)
            clear hK K
            refine wpAnyH_ready (rs := [1]) (by kernel_rfl) (by simp) ?_
            refine AllReadyH.cons rfl (fun K hK => ?_) ?_
            · go_simp
              refine hK.out _ _ hHeld (fun hHeld => ?_)
              clear hK K
              refine wpAnyH_ready (rs := [18]) (by kernel_rfl) (by simp) ?_
              refine AllReadyH.cons rfl (fun K hK => ?_) ?_
              · (refine step_append_lies _ ?_ (.tmp 16) (.tmp 32) 38 ?_ (gm + 1) 110 i1 (.agg #[.int .i64 0, .slice none 0 0]) 2 32 Tryd.underlying38 hi1 hy0 hy1 hy2 ?_ ?_ (.slice aO i cO) i (frs l) ?_ (HOa.out _) ⟨wA.heap.size, 0, none⟩ 1 1 [.int .i64 ftx, .slice y1 pl d1] ?_ ?_ (free_cells wA _ rfl _ _) ?_ ?_ ?_ ?_ ?_ _ rfl ?_; exact rfl; exact rfl; exact rfl; decide; exact rfl; exact rfl; exact rfl; (intro u hu; simp at hu; rcases hu with rfl | rfl <;> rfl); decide; (unfold maxLen; omega); omega; (have := HGa.out; simp; omega); intro b4 d4 wB hownB hgB hbB hlB; have hst := free_stepL HMa.out HPa.out HFa.out (by rw [HFl.out]; exact hownB) hgB; have cc := hst.2.2.1; have cf := hst.2.2.2; have HMb := hide hst.1; have HBb : Hid (Below gm w1 (wB.setCell ⟨gm, 3, none⟩ (.slice (some ⟨b4, 0, none⟩) (i + 1) d4))) := hide (HBa.out.trans hst.2.1); have hSb := HSB.out wB (HBa.out.trans (((Below.refl gm wA).alloc (by have := HGa.out; omega) _).grown hgB (by have := HGa.out; simp; omega) (fun k e => by have := (HMa.out.2.1.lt k e).1; omega))); have hSs := HSB.out _ HBb.out; clear hownB hgB hbB hlB hst)
                refine hK.out (Act.put _ (some 33) _) _ hSb (fun hHeld => ?_)
                clear hK K
                simp only [Act.put, List.setIfInBounds_toArray, List.set_cons_zero, List.set_cons_succ]
                refine takeM 19 34 ?_ rfl rfl (by kernel_rfl) (by kernel_rfl) (by kernel_rfl) (fun _ _ _ h => h) (Or.inl ⟨by rfl, ?_⟩) hHeld ?_
                rotate_left
                · (intro wx hSw; (try dsimp only at hSw); go_simp; try with_reducible rfl)
                simp only [List.setIfInBounds_toArray, List.set_cons_zero, List.set_cons_succ]
                refine wpAnyH_ready (rs := [20]) (by kernel_rfl) (by simp) ?_
                refine AllReadyH.cons rfl (fun K hK => ?_) ?_
                · go_simp
                  refine hK.out _ _ hSs (fun hHeld => ?_)
                  clear hK K
                  refine wpAnyH_done (by kernel_rfl) ?_ _
                  have HMc : Hid (MGr (wB.setCell ⟨gm, 3, none⟩ (.slice (some ⟨b4, 0, none⟩) (i + 1) d4)) gm tx root next (.slice (some ⟨b4, 0, none⟩) (i + 1) d4) (l ++ [(ftx, .slice y1 pl d1)]) (m.fs.take (i + 1))) := hide (by rw [← take_snocM m.fs i _ HF.out]; exact HMb.out)
                  go_wp2_with fail
                  go_roundg (gk - 1)
                  case measure => have := HG.out; omega
                  case rel => exact ⟨i + 1, _, _, by omega, by go_num, by have := HG.out; omega, HMc, HBb⟩
                exact AllReadyH.nil
              exact AllReadyH.nil
            exact AllReadyH.nil
          exact AllReadyH.nil
        exact AllReadyH.nil
      exact AllReadyH.nil
    · have hiL : i = L := by omega
      subst hiL
      clear hlt hil
      have HMo : Hid (MetaOwn wr (gm + 1) (.agg #[.int .i64 tx, .int .i64 root, .int .i64 next, vf]) m) := hide (by
        obtain ⟨e1, e2, e3⟩ := HE.out
        have h := HMg.out
        rw [show m.fs.take i = m.fs from by rw [HL.out]; exact List.take_length] at h
        rw [e1, e2, e3] at h ⊢
        exact mgr_own h)
      obtain ⟨aO, cO, hvf⟩ := own_slice HMg.out.2.1
      subst hvf
      obtain ⟨FL, hFL⟩ : ∃ FL, FL = (m.fs.take i).length := ⟨_, rfl⟩
      rw [← hFL] at HMg HMo
      have m0 := (cell_at HMg.out.1 0).1
      have m1 := (cell_at HMg.out.1 1).1
      have m2 := (cell_at HMg.out.1 2).1
      have m3 := (cell_at HMg.out.1 3).1
      have ra := (HBr.out.block (w.heap.size + 1) (by have := HGm.out; omega)).trans HZ1.out
      have a0 := (cell_at ra 0).1
      have a1 := (cell_at ra 1).1
      have a2 := (cell_at ra 2).1
      have a3 := (cell_at ra 3).1
      have z0 := (cell_at ra 0).2
      have z1 := (cell_at ra 1).2
      have z2 := (cell_at ra 2).2
      have z3 := (cell_at ra 3).2
      have HRA := hide ra
      clear ra hFL
      have hlt : ¬ ((i : Int) < (i : Int)) := by omega
      go_wp2_with fail
      have hrt := HRA.out
      rw [HE.out.1, HE.out.2.1, HE.out.2.2] at HMo ⊢
      have hrt := ret_meta (m := m) (vf := .slice aO FL cO) HRA.out HMo.out (by have := HGm.out; omega)
      have t0 := (cell_at hrt.1 0).1
      have t1 := (cell_at hrt.1 1).1
      have t2 := (cell_at hrt.1 2).1
      have t3 := (cell_at hrt.1 3).1
      refine bodyPost_ret (v := .agg #[.int .i64 m.tx, .int .i64 m.root, .int .i64 m.next, .slice aO FL cO]) (by simp [results, Tryd.results128, go_sem, t0, t1, t2, t3]) rfl ⟨_, rfl, metaOwn_down hrt.2.1 (by have := HGm.out; omega), (HB1.out.trans (HBr.out.mono (by have := HGm.out; omega))).trans (hrt.2.2.mono (by omega))⟩
end Go.Proofs.YtglcfaibgjiigaaDoor

namespace Go.Proofs.YtglcfaibgjiigaaDoor
open Go.RowKit

theorem Tryd.free_meta : (110 : Nat) ≠ 40 := by decide

theorem Tryd.int_meta : (3 : Nat) ≠ 40 := by decide

/-- the variable gm holds the meta; its rows are owned from B on -/
def MVar (w : World) (gm B : Nat) (tx root next : Int) (vf : Value) (l : List (Int × Value)) (fs : List (Int × List Int)) : Prop :=
  w.heap[gm]? = some (.cells #[.int .i64 tx, .int .i64 root, .int .i64 next, vf] 40 (0, 0)) ∧ OwnF w B vf l fs

theorem ownF_notMeta {w : World} {gm B : Nat} {vf : Value} {l : List (Int × Value)} {fs : List (Int × List Int)} {cs : Array Value} (hq : w.heap[gm]? = some (.cells cs 40 (0, 0))) (h : OwnF w B vf l fs) : ∀ b, freeBlocks vf l b → gm ≠ b := fun b hb e => by
  subst e
  rcases hb with hb | ⟨i, p, hp, hb⟩
  · exact blk_typeM h.1 hq Tryd.free_meta hb.symm
  · have hi : i < fs.length := by have := (List.getElem?_eq_some_iff.1 hp).1; have := h.2.1; omega
    exact blk_typeM (h.2.2.1 i p _ hi hp (List.getElem?_eq_getElem hi)).2 hq Tryd.int_meta hb.symm

theorem mvar_lt {w : World} {gm B : Nat} {tx root next : Int} {vf : Value} {l : List (Int × Value)} {fs : List (Int × List Int)} (h : MVar w gm B tx root next vf l fs) : gm < w.heap.size := (Array.getElem?_eq_some_iff.1 h.1).1

theorem mvar_grown {w w' : World} {g gm B : Nat} {tx root next : Int} {vf : Value} {l : List (Int × Value)} {fs : List (Int × List Int)} (h : MVar w gm B tx root next vf l fs) (hg : w.grownBy w' (some g)) (hne : gm ≠ g) (hlt : g < B) : MVar w' gm B tx root next vf l fs :=
  ⟨(hg.block gm (mvar_lt h) (fun e => by injection e with e; omega)).trans h.1, ownF_grown h.2 hg (fun b hb e => by injection e with e; have := (ownF_lt h.2 b hb).1; omega)⟩

theorem mvar_below {w w' : World} {gm B : Nat} {tx root next : Int} {vf : Value} {l : List (Int × Value)} {fs : List (Int × List Int)} (h : MVar w gm B tx root next vf l fs) (hb : Below w.heap.size w w') : MVar w' gm B tx root next vf l fs :=
  ⟨(hb.block gm (mvar_lt h)).trans h.1, ownF_stays h.2 hb⟩

theorem mvar_rowsM {w : World} {gm B : Nat} {tx root next : Int} {vf : Value} {l : List (Int × Value)} {fs : List (Int × List Int)} (h : MVar w gm B tx root next vf l fs) (j : Nat) (u : Value) : OwnF (w.setCell ⟨gm, j, none⟩ u) B vf l fs :=
  ownF_grown h.2 (grown_setM w gm j u) (fun b hb e => by injection e with e; exact ownF_notMeta h.1 h.2 b hb e)

theorem mvar_tx {w : World} {gm B : Nat} {tx root next : Int} {vf : Value} {l : List (Int × Value)} {fs : List (Int × List Int)} (h : MVar w gm B tx root next vf l fs) (x : Int) : MVar (w.setCell ⟨gm, 0, none⟩ (.int .i64 x)) gm B x root next vf l fs :=
  ⟨heap_setCell_same w gm 0 _ _ _ h.1, mvar_rowsM h 0 _⟩

theorem mvar_root {w : World} {gm B : Nat} {tx root next : Int} {vf : Value} {l : List (Int × Value)} {fs : List (Int × List Int)} (h : MVar w gm B tx root next vf l fs) (x : Int) : MVar (w.setCell ⟨gm, 1, none⟩ (.int .i64 x)) gm B tx x next vf l fs :=
  ⟨heap_setCell_same w gm 1 _ _ _ h.1, mvar_rowsM h 1 _⟩

theorem mvar_next {w : World} {gm B : Nat} {tx root next : Int} {vf : Value} {l : List (Int × Value)} {fs : List (Int × List Int)} (h : MVar w gm B tx root next vf l fs) (x : Int) : MVar (w.setCell ⟨gm, 2, none⟩ (.int .i64 x)) gm B tx root x vf l fs :=
  ⟨heap_setCell_same w gm 2 _ _ _ h.1, mvar_rowsM h 2 _⟩

/-- a free more -/
theorem mvar_free {w w' : World} {gm B C : Nat} {tx root next ftx : Int} {vf vp v' : Value} {l : List (Int × Value)} {fs : List (Int × List Int)} {ps : List Int} {o : Obj} (hM : MVar w gm B tx root next vf l fs) (hP : w.ownsRow B 3 1 vp ps.length (ints ps)) (f5 : ∀ (i : Nat) (p : Int × Value) (b : Nat), l[i]? = some p → p.2.ownBlock = some b → vp.ownBlock ≠ some b)
    (hown : w'.ownsRow B 110 2 v' (fs.length + 1) (frs l ++ [.int .i64 ftx, vp])) (hg : (w.alloc o).grownBy w' vf.ownBlock) (hCB : C ≤ B) (hCg : C ≤ gm) :
    MVar (w'.setCell ⟨gm, 3, none⟩ v') gm B tx root next v' (l ++ [(ftx, vp)]) (fs ++ [(ftx, ps)]) ∧ Below C w (w'.setCell ⟨gm, 3, none⟩ v') ∧ w'.cell? ⟨gm, 3, none⟩ = some vf ∧ w'.frozen? ⟨gm, 3, none⟩ = false := by
  have hba : Below w.heap.size w (w.alloc o) := (Below.refl _ _).alloc (Nat.le_refl _) _
  have hMl := mvar_lt hM
  obtain ⟨m1, m2⟩ := mvar_below hM hba
  have f2 := own_stays hP hba
  have r2 : w'.heap[gm]? = _ := (hg.block gm (Array.getElem?_eq_some_iff.1 m1).1 (blk_typeM m2.1 m1 Tryd.free_meta)).trans m1
  have hs := grown_setM w' gm 3 v'
  have hbe : Below C w w' := ((Below.refl C w).alloc (by omega) o).grown hg (by simp; omega) (fun k e => by have := (m2.1.lt k e).1; omega)
  have p1 : w'.ownsRow B 3 1 vp ps.length (ints ps) := f2.kept hg (apartM (fun k e => one_type m2.1 f2 Tryd.free_int k e))
  have p2 := p1.kept hs (Or.inr (fun e => blk_typeM p1 r2 Tryd.int_meta e.symm))
  have hlen : l.length = fs.length := m2.2.1
  refine ⟨⟨heap_setCell_same w' gm 3 _ _ _ r2, ?_, ?_, ?_, ?_⟩, hbe.grown hs (by have := hbe.size; omega) (fun k e => by injection e with e; omega), (cell_at r2 3).1, (cell_at r2 3).2⟩
  · rw [List.length_append, frs_snoc]
    exact hown.kept hs (Or.inr (fun e => blk_typeM hown r2 Tryd.free_meta e.symm))
  · simp [hlen]
  · intro i p f hi hp hf
    by_cases e : i < fs.length
    · rw [List.getElem?_append_left (by omega)] at hp
      rw [List.getElem?_append_left e] at hf
      obtain ⟨g1, g2⟩ := m2.2.2.1 i p f e hp hf
      have g3 := g2.kept hg (apartM (fun k e => one_type m2.1 g2 Tryd.free_int k e))
      exact ⟨g1, g3.kept hs (Or.inr (fun e => blk_typeM g3 r2 Tryd.int_meta e.symm))⟩
    · have hi2 : i = fs.length := by simp at hi; omega
      subst hi2
      rw [List.getElem?_append_right (by omega), hlen] at hp
      rw [List.getElem?_append_right (by omega)] at hf
      simp at hp hf
      subst hp hf
      exact ⟨rfl, p2⟩
  · intro i j p q b hi hj hp hq h1 h2
    by_cases ei : i < fs.length
    · rw [List.getElem?_append_left (by omega)] at hp
      by_cases ej : j < fs.length
      · rw [List.getElem?_append_left (by omega)] at hq
        exact m2.2.2.2 i j p q b ei ej hp hq h1 h2
      · have hj2 : j = fs.length := by simp at hj; omega
        subst hj2
        rw [List.getElem?_append_right (by omega), hlen] at hq
        simp at hq
        subst hq
        exact absurd h2 (f5 i p b hp h1)
    · have hi2 : i = fs.length := by simp at hi; omega
      by_cases ej : j < fs.length
      · rw [List.getElem?_append_left (by omega)] at hq
        subst hi2
        rw [List.getElem?_append_right (by omega), hlen] at hp
        simp at hp
        subst hp
        exact absurd h1 (f5 j q b hq h2)
      · simp at hj
        omega

/-- a page more in the first free -/
theorem ownF_page0 {w w' : World} {B bF n cF b cap : Nat} {l : List (Int × Value)} {fs : List (Int × List Int)} {x y : Int} {vp : Value} {ps : List Int} {o : Obj} (h : OwnF w B (.slice (some ⟨bF, 0, none⟩) n cF) ((x, vp) :: l) ((x, ps) :: fs)) (hn : n = fs.length + 1)
    (hown : w'.ownsRow B 3 1 (.slice (some ⟨b, 0, none⟩) (ps.length + 1) cap) (ps.length + 1) (ints ps ++ [.int .i64 y])) (hg : (w.alloc o).grownBy w' vp.ownBlock) (hb : vp.ownBlock = some b ∨ b = (w.alloc o).heap.size) :
    OwnF (w'.setCell ⟨bF, 1, none⟩ (.slice (some ⟨b, 0, none⟩) (ps.length + 1) cap)) B (.slice (some ⟨bF, 0, none⟩) n cF) ((x, .slice (some ⟨b, 0, none⟩) (ps.length + 1) cap) :: l) ((x, ps ++ [y]) :: fs) ∧ w'.cell? ⟨bF, 1, none⟩ = some vp ∧ w'.frozen? ⟨bF, 1, none⟩ = false := by
  subst hn
  have hba : Below w.heap.size w (w.alloc o) := (Below.refl _ _).alloc (Nat.le_refl _) _
  have h0 := ownF_stays h hba
  have hp0 := (h0.2.2.1 0 (x, vp) (x, ps) (by simp) rfl rfl).2
  have h1 := h0.1.kept hg (apartM (fun k e1 e2 => one_type h0.1 hp0 Tryd.free_int k e2 e1))
  have hs := grown_setM w' bF 1 (.slice (some ⟨b, 0, none⟩) (ps.length + 1) cap)
  refine ⟨⟨(h1.stored 1 (.slice (some ⟨b, 0, none⟩) (ps.length + 1) cap)).1, by first | exact h0.2.1 | simpa using h0.2.1, fun i p f hi hp hf => ?_, fun i j p q c hi hj hp hq e1 e2 => ?_⟩, by rw [h1.cellAt 1 (by first | omega | (simp; omega))]; rfl, h1.frozenAt 1⟩
  · cases i with
    | zero =>
      simp at hp hf
      subst hp hf
      refine ⟨rfl, ?_⟩
      rw [List.length_append, ← ints_snocM]
      exact hown.kept hs (Or.inr (fun e => one_type h1 hown Tryd.free_int bF rfl e))
    | succ i =>
      obtain ⟨g1, g2⟩ := h0.2.2.1 (i + 1) p f (by simpa using hi) hp hf
      have g3 := g2.kept hg (apartM (fun k e1 e2 => by have := h0.2.2.2 0 (i + 1) (x, vp) p k (by simp) (by simpa using hi) rfl hp e1 e2; omega))
      exact ⟨g1, g3.kept hs (Or.inr (fun e => one_type h1 g3 Tryd.free_int bF rfl e))⟩
  · have key : ∀ (j : Nat) (q : Int × Value), j < fs.length → l[j]? = some q → q.2.ownBlock = some b → False := fun j q hj hq e => by
      rcases hb with hb | hb
      · have := h0.2.2.2 0 (j + 1) (x, vp) q b (by simp) (by simp; omega) rfl hq hb e; omega
      · have h2 := h0.2.2.1 (j + 1) q _ (by simp; omega) hq (List.getElem?_eq_getElem (by simp; omega))
        have := (h2.2.lt b e).2
        omega
    cases i with
    | zero =>
      cases j with
      | zero => rfl
      | succ j =>
        simp at hp
        subst hp
        have e3 : b = c := by injection e1
        subst e3
        exact (key j q (by simpa using hj) hq e2).elim
    | succ i =>
      cases j with
      | zero =>
        simp at hq
        subst hq
        have e3 : b = c := by injection e2
        subst e3
        exact (key i p (by simpa using hi) hp e1).elim
      | succ j => exact h0.2.2.2 (i + 1) (j + 1) p q c (by simpa using hi) (by simpa using hj) hp hq e1 e2

/-- what l06Any draws: small enough for every function of the chapter -/
def SmallM (m : Mt) : Prop := m.fs.length ≤ 3 ∧ ∀ f ∈ m.fs, f.2.length ≤ 3

theorem small_drawnM {m : Mt} (h : DrawnM m) : m.fs.length ≤ 2 ∧ ∀ f ∈ m.fs, f.2.length ≤ 2 := by
  obtain ⟨-, -, -, q, hq⟩ := h
  have := drf_len hq
  exact ⟨by omega, this.2.1⟩
end Go.Proofs.YtglcfaibgjiigaaDoor

namespace Go.Proofs.YtglcfaibgjiigaaDoor
open Go.RowKit

theorem drf_one {i q : Nat} {fs : List (Int × List Int)} (h : DrF i q fs) : (i = 1 → q = 4 ∧ fs = []) ∧ 1 ≤ i := by
  cases h with
  | start => exact ⟨fun _ => ⟨rfl, rfl⟩, Nat.le_refl _⟩
  | none h => exact ⟨fun e => by cases h <;> omega, by omega⟩
  | some n h _ _ => exact ⟨fun e => by cases h <;> omega, by omega⟩

theorem drf_pos {i q : Nat} {fs : List (Int × List Int)} (h : DrF i q fs) : 1 ≤ i := (drf_one h).2

theorem drf_two {i q : Nat} {fs : List (Int × List Int)} (h : DrF i q fs) (e : i = 2) : (q = 4 ∧ fs = []) ∨ ∃ n, 1 ≤ n ∧ n ≤ 2 ∧ q = 4 + n ∧ fs = [(1, pgsM 4 n)] := by
  cases h with
  | start => omega
  | none h => exact Or.inl ((drf_one h).1 (by omega))
  | @some i q fs n h h1 h2 =>
    obtain ⟨e1, e2⟩ := (drf_one h).1 (by omega)
    have e3 : i = 1 := by omega
    subst e1 e2 e3
    exact Or.inr ⟨n, h1, h2, rfl, rfl⟩

theorem drf_three {i q : Nat} {fs : List (Int × List Int)} (h : DrF i q fs) (e : i = 3) : fs = [] ∨ (∃ n, 1 ≤ n ∧ n ≤ 2 ∧ fs = [(1, pgsM 4 n)]) ∨ (∃ n, 1 ≤ n ∧ n ≤ 2 ∧ fs = [(2, pgsM 4 n)]) ∨ ∃ n k, 1 ≤ n ∧ n ≤ 2 ∧ 1 ≤ k ∧ k ≤ 2 ∧ fs = [(1, pgsM 4 n), (2, pgsM (4 + n) k)] := by
  cases h with
  | start => omega
  | none h =>
    rcases drf_two h (by omega) with ⟨-, h⟩ | ⟨n, h1, h2, -, h⟩
    · exact Or.inl h
    · exact Or.inr (Or.inl ⟨n, h1, h2, h⟩)
  | @some i q fs k h h1 h2 =>
    have e3 : i = 2 := by omega
    subst e3
    rcases drf_two h rfl with ⟨e1, e2⟩ | ⟨n, g1, g2, e1, e2⟩
    · subst e1 e2
      exact Or.inr (Or.inr (Or.inl ⟨k, h1, h2, rfl⟩))
    · subst e1 e2
      exact Or.inr (Or.inr (Or.inr ⟨n, k, g1, g2, h1, h2, rfl⟩))

theorem drawn_good {m : Mt} (h : DrawnM m) (t : Int) (h1 : m.tx ≤ t) (h2 : t ≤ 8) : (⟨t, m.root, m.next, m.fs⟩ : Mt).good = true := by
  obtain ⟨⟨a1, a2⟩, ⟨b1, b2⟩, hr, q, hq⟩ := h
  have p4 : (4 : Int) < m.next := by omega
  have p5 : (5 : Int) < m.next := by omega
  have p6 : (6 : Int) < m.next := by omega
  have p7 : (7 : Int) < m.next := by omega
  have t1 : (1 : Int) ≤ t := by omega
  have t2 : (2 : Int) ≤ t := by omega
  have hok : (⟨t, m.root, m.next, m.fs⟩ : Mt).ok = true := by
    rcases drf_three hq rfl with e | ⟨n, n1, n2, e⟩ | ⟨n, n1, n2, e⟩ | ⟨n, k, n1, n2, k1, k2, e⟩
    · rw [Mt.ok, e]
      simp [headOkB, freesB]
      omega
    · have : n = 1 ∨ n = 2 := by omega
      rcases this with rfl | rfl <;> rcases hr with hr | hr | hr <;> (rw [Mt.ok, e, hr]; simp [headOkB, freesB, pgsB, pgsM, List.range_succ, *] <;> omega)
    · have : n = 1 ∨ n = 2 := by omega
      rcases this with rfl | rfl <;> rcases hr with hr | hr | hr <;> (rw [Mt.ok, e, hr]; simp [headOkB, freesB, pgsB, pgsM, List.range_succ, *] <;> omega)
    · have hn : n = 1 ∨ n = 2 := by omega
      have hk : k = 1 ∨ k = 2 := by omega
      rcases hn with rfl | rfl <;> rcases hk with rfl | rfl <;> rcases hr with hr | hr | hr <;> (rw [Mt.ok, e, hr]; simp [headOkB, freesB, pgsB, pgsM, List.range_succ, *] <;> omega)
  rw [Mt.good, hok, Bool.true_and]
  apply decide_eq_true
  have hs := (numsL_size (⟨t, m.root, m.next, m.fs⟩ : Mt).nums).2
  have hl : (⟨t, m.root, m.next, m.fs⟩ : Mt).nums.length ≤ 12 := by
    rcases drf_three hq rfl with e | ⟨n, n1, n2, e⟩ | ⟨n, n1, n2, e⟩ | ⟨n, k, n1, n2, k1, k2, e⟩ <;> (rw [Mt.nums, e]; simp [freeNums, pgsM_len]; try omega)
  omega
end Go.Proofs.YtglcfaibgjiigaaDoor

namespace Go.Proofs.YtglcfaibgjiigaaDoor
open Go.RowKit

def AmPost (w : World) (g B : Nat) (a : Option Addr) (len cap : Nat) (e : Ending) (w' : World) : Prop := ∃ m v, e = .returned v ∧ SmallM m ∧ MetaOwn w' w.heap.size v m ∧ Drawn w w' g B a len cap

/-- the end: the variable is handed back -/
theorem any_endM {w wa wr : World} {g B gm : Nat} {a : Option Addr} {len cap : Nat} {tx root next : Int} {vf : Value} {l : List (Int × Value)} {fs : List (Int × List Int)} (hgl : g < w.heap.size) (hB : B ≤ g) (hDa : Drawn w wa g B a len cap) (hsa : wa.heap.size = w.heap.size + 1)
    (hva : wa.heap[w.heap.size]? = some (.cells #[.int .i64 0, .int .i64 0, .int .i64 0, .slice none 0 0] 40 (0, 0))) (hm : MVar wr gm wa.heap.size tx root next vf l fs) (hd : Drawn wa wr g B a len cap) (hsm : SmallM ⟨tx, root, next, fs⟩) :
    wr.heap[w.heap.size]? = some (.cells #[.int .i64 0, .int .i64 0, .int .i64 0, .slice none 0 0] 40 (0, 0)) ∧ (((((wr.setCell ⟨w.heap.size, 0, none⟩ (.int .i64 tx)).setCell ⟨w.heap.size, 1, none⟩ (.int .i64 root)).setCell ⟨w.heap.size, 2, none⟩ (.int .i64 next)).setCell ⟨w.heap.size, 3, none⟩ vf).heap[w.heap.size]? = some (.cells #[.int .i64 tx, .int .i64 root, .int .i64 next, vf] 40 (0, 0))) ∧
    AmPost w g B a len cap (.returned (.agg #[.int .i64 tx, .int .i64 root, .int .i64 next, vf])) ((((wr.setCell ⟨w.heap.size, 0, none⟩ (.int .i64 tx)).setCell ⟨w.heap.size, 1, none⟩ (.int .i64 root)).setCell ⟨w.heap.size, 2, none⟩ (.int .i64 next)).setCell ⟨w.heap.size, 3, none⟩ vf) := by
  have ra := (hd.2.1.block w.heap.size (by omega) (fun e => by injection e with e; omega)).trans hva
  have hrt := ret_meta (m := ⟨tx, root, next, fs⟩) (vf := vf) ra (⟨vf, l, rfl, hm.2⟩ : MetaOwn wr wa.heap.size _ _) (by omega)
  exact ⟨ra, hrt.1, ⟨⟨tx, root, next, fs⟩, _, rfl, hsm, metaOwn_down hrt.2.1 (by omega), drawn_lowM (drawn_trans hDa hd) hrt.2.2 (Nat.le_refl _) hgl hB⟩⟩

theorem mvarRow {w : World} {gm B L : Nat} {tx root next : Int} {vf : Value} {l : List (Int × Value)} {fs : List (Int × List Int)} (h : MVar w gm B tx root next vf l fs) (hL : L = fs.length) : w.ownsRow B 110 2 vf L (frs l) := by rw [hL]; exact h.2.1

theorem one_rowM (w : World) (B : Nat) (hB : B ≤ w.heap.size) (y : Int) : (w.alloc (Obj.cells #[.int .i64 y] 3)).ownsRow B 3 1 (.slice (some ⟨w.heap.size, 0, none⟩) 1 1) [y].length (ints [y]) :=
  ⟨rfl, Or.inr ⟨w.heap.size, 1, _, rfl, hB, heap_alloc_new w _, Nat.le_refl _, by unfold maxLen; omega, rfl, rfl⟩⟩

/-- the free that l06Any appends -/
theorem any_free {w w' : World} {gm B L b cap : Nat} {tx root next z y : Int} {vf : Value} {l : List (Int × Value)} {fs : List (Int × List Int)} {o : Obj} (h : MVar w gm B tx root next vf l fs) (hL : L = fs.length) (hBg : B ≤ gm)
    (hown : w'.ownsRow B 110 2 (.slice (some ⟨b, 0, none⟩) (L + 1) cap) (L + 1) (frs l ++ [.int .i64 z, .slice (some ⟨w.heap.size, 0, none⟩) 1 1])) (hg : ((w.alloc (Obj.cells #[.int .i64 y] 3)).alloc o).grownBy w' vf.ownBlock) :
    MVar (w'.setCell ⟨gm, 3, none⟩ (.slice (some ⟨b, 0, none⟩) (L + 1) cap)) gm B tx root next (.slice (some ⟨b, 0, none⟩) (L + 1) cap) (l ++ [(z, .slice (some ⟨w.heap.size, 0, none⟩) 1 1)]) (fs ++ [(z, [y])]) ∧ Below B (w.alloc (Obj.cells #[.int .i64 y] 3)) (w'.setCell ⟨gm, 3, none⟩ (.slice (some ⟨b, 0, none⟩) (L + 1) cap)) ∧ w'.cell? ⟨gm, 3, none⟩ = some vf ∧ w'.frozen? ⟨gm, 3, none⟩ = false := by
  subst hL
  have hl := mvar_lt h
  have hb : Below w.heap.size w (w.alloc (Obj.cells #[.int .i64 y] 3)) := (Below.refl _ _).alloc (Nat.le_refl _) _
  exact mvar_free (mvar_below h hb) (one_rowM w B (by omega) y) (fun i p c hp e1 e2 => by
    have h1 := (ownF_lt h.2 c (Or.inr ⟨i, p, hp, e1⟩)).2
    have h2 : w.heap.size = c := by injection e2
    omega) hown hg (Nat.le_refl _) hBg

theorem row_full {w : World} {B e n : Nat} {v : Value} {xs : List Value} (h : w.ownsRow B e 1 v n xs) (hn : 1 ≤ n) : ∃ b c, v = .slice (some ⟨b, 0, none⟩) n c := by
  rcases h.2 with ⟨e, h0⟩ | ⟨g, cp, cur, e, _⟩
  · omega
  · exact ⟨g, cp, e⟩

theorem any_first {w : World} {gm B L cF : Nat} {aF : Option Addr} {tx root next : Int} {l : List (Int × Value)} {fs : List (Int × List Int)} (h : MVar w gm B tx root next (.slice aF L cF) l fs) (hL : L = fs.length) (h0 : ¬ L = 0) : ∃ bF l' fs' x vp ps, l = (x, vp) :: l' ∧ fs = (x, ps) :: fs' ∧ aF = some ⟨bF, 0, none⟩ := by
  cases fs with
  | nil => simp at hL; omega
  | cons f fs =>
    cases l with
    | nil => have := h.2.2.1; simp at this
    | cons p l =>
      have e1 := (h.2.2.2.1 0 p f (by simp) rfl rfl).1
      rcases h.2.1.2 with ⟨e, h0⟩ | ⟨g, cp, cur, e, _⟩
      · simp at h0
      · injection e with e _ _
        exact ⟨g, l, fs, f.1, p.2, f.2, by rw [← e1], rfl, e⟩

theorem any_page {w w' : World} {gm B L bF cF bp cp b cap NP : Nat} {tx root next x p0 : Int} {l : List (Int × Value)} {fs : List (Int × List Int)} {ps : List Int} {o : Obj} (h : MVar w gm B tx root next (.slice (some ⟨bF, 0, none⟩) L cF) ((x, .slice (some ⟨bp, 0, none⟩) NP cp) :: l) ((x, ps) :: fs)) (hL : L = ((x, ps) :: fs).length) (hN : NP = ps.length)
    (hown : w'.ownsRow B 3 1 (.slice (some ⟨b, 0, none⟩) (NP + 1) cap) (NP + 1) (ints ps ++ [.int .i64 p0])) (hg : (w.alloc o).grownBy w' (some bp)) (hb : some bp = some b ∨ b = (w.alloc o).heap.size) (hBs : B ≤ w.heap.size) :
    MVar (w'.setCell ⟨bF, 1, none⟩ (.slice (some ⟨b, 0, none⟩) (NP + 1) cap)) gm B tx root next (.slice (some ⟨bF, 0, none⟩) L cF) ((x, .slice (some ⟨b, 0, none⟩) (NP + 1) cap) :: l) ((x, ps ++ [p0]) :: fs) ∧ w'.cell? ⟨gm, 3, none⟩ = some (.slice (some ⟨bF, 0, none⟩) L cF) ∧ Below B w (w'.setCell ⟨bF, 1, none⟩ (.slice (some ⟨b, 0, none⟩) (NP + 1) cap)) ∧ w'.cell? ⟨bF, 1, none⟩ = some (.slice (some ⟨bp, 0, none⟩) NP cp) ∧ w'.frozen? ⟨bF, 1, none⟩ = false := by
  subst hN
  have hrow := (h.2.2.2.1 0 _ _ (by simp) rfl rfl).2
  have hst := ownF_page0 h.2 (by simpa using hL) hown hg hb
  have hba : Below w.heap.size w (w.alloc o) := (Below.refl _ _).alloc (Nat.le_refl _) _
  have hva := mvar_below h hba
  have hq : w'.heap[gm]? = _ := (hg.block gm (mvar_lt hva) (fun e => blk_typeM hrow h.1 Tryd.int_meta e)).trans hva.1
  have hbF := h.2.1.lt bF rfl
  have hnF : bF ≠ gm := fun e => ownF_notMeta h.1 h.2 bF (Or.inl rfl) e.symm
  refine ⟨⟨(heap_setCell_other w' ⟨bF, 1, none⟩ gm _ (fun e => hnF e.symm)).trans hq, hst.1⟩, (cell_at hq 3).1, ?_, hst.2.1, hst.2.2⟩
  exact (((Below.refl B w).alloc hBs o).grown hg (by simp; omega) (fun k e => (hrow.lt k e).1)).setCell hbF.1 _

set_option maxHeartbeats 16000000 in
set_option maxRecDepth 100000 in
theorem l06Any_any (g B : Nat) (a : Option Addr) (len cap : Nat) (w : World) (hc : CurAt w g a len cap) (hd : CodeIn w B a len) (hB : B ≤ g) :
    Calls Tryd.prog 82 #[.pointer (some ⟨g, 0, none⟩)] w fun e w' => AmPost w g B a len cap e w' := by
  obtain ⟨i0, hi, hz0, hz1, hz2⟩ := info_parts Tryd.intInfo
  obtain ⟨i1, hi1, hy0, hy1, hy2⟩ := info_parts Tryd.freeInfo
  have HGl : Hid (g < w.heap.size) := hide (cur_lt hc)
  obtain ⟨wa, hwa⟩ : ∃ wa, wa = w.alloc (.cells #[.int .i64 0, .int .i64 0, .int .i64 0, .slice none 0 0] 40 (0, 0)) := ⟨_, rfl⟩
  have hba : Below w.heap.size w wa := by rw [hwa]; exact (Below.refl _ _).alloc (Nat.le_refl _) _
  have HDa := hide (drawn_newM hc hd hB hba)
  have HVa : Hid (wa.heap[w.heap.size]? = some (.cells #[.int .i64 0, .int .i64 0, .int .i64 0, .slice none 0 0] 40 (0, 0))) := hide (by rw [hwa]; exact heap_alloc_new w _)
  have HSa : Hid (wa.heap.size = w.heap.size + 1) := hide (by rw [hwa]; simp)
  have HMe := hide (l06Meta_any g B a len cap wa HDa.out.1 HDa.out.2.2 hB)
  have HB12 := hide (fun wx h h' => l01Below_any g B a len cap 12 (by omega) (by omega) wx h h' hB)
  clear hc hd hba
  go_enter Tryd.func82, Tryd.ntmps82
  go_wp2_with fail
  try rw [← hwa]
  clear hwa
  refine HMe.out.mono ?_
  rintro e w1 ⟨m, v, rfl, hdm, hown, hd1⟩
  have HDm := hide hdm
  have HCp := hide (l06Copy_any v m (by have := (small_drawnM hdm).1; omega) (fun f hf => by have := (small_drawnM hdm).2 f hf; omega) w1 (meta_of_own hown))
  have HD1 := hide hd1
  clear hdm hown hd1 HMe
  go_wp2_with fail
  refine HCp.out.mono ?_
  rintro e w2 ⟨v2, rfl, hown2, hb2⟩
  obtain ⟨vf, l, rfl, hof⟩ := hown2
  obtain ⟨aF, cF, hvf⟩ := own_slice hof.1
  subst hvf
  obtain ⟨fs, hfs⟩ : ∃ fs, fs = m.fs := ⟨_, rfl⟩
  obtain ⟨tx, htx⟩ : ∃ x, x = m.tx := ⟨_, rfl⟩
  obtain ⟨root, hro⟩ : ∃ x, x = m.root := ⟨_, rfl⟩
  obtain ⟨next, hne⟩ : ∃ x, x = m.next := ⟨_, rfl⟩
  have HSm : Hid (fs.length ≤ 2 ∧ ∀ f ∈ fs, f.2.length ≤ 2) := hide (by rw [hfs]; exact small_drawnM HDm.out)
  have HNx : Hid (8 ≤ next ∧ next ≤ 27) := hide (by rw [hne]; exact HDm.out.2.1)
  have HFp : Hid (∀ f ∈ fs, 1 ≤ f.2.length) := hide (by
    have h := (ok_parts (good_ok (drawn_good HDm.out m.tx (Int.le_refl _) (by have := HDm.out.1; omega)))).2
    rw [hfs]
    exact fun f hf => (h f hf).2.2.1)
  rw [← htx, ← hro, ← hne, ← hfs]
  rw [← hfs] at hof
  obtain ⟨L, hL⟩ : ∃ L, L = fs.length := ⟨_, rfl⟩
  rw [← hL]
  obtain ⟨gm, hgm⟩ : ∃ gm, gm = w2.heap.size := ⟨_, rfl⟩
  obtain ⟨w3, hw3⟩ : ∃ w3, w3 = w2.alloc (.cells #[.int .i64 tx, .int .i64 root, .int .i64 next, .slice aF L cF] 40 (0, 0)) := ⟨_, rfl⟩
  have hb3 : Below w2.heap.size w2 w3 := by rw [hw3]; exact (Below.refl _ _).alloc (Nat.le_refl _) _
  have HM3 : Hid (MVar w3 gm wa.heap.size tx root next (.slice aF L cF) l fs) := hide ⟨by rw [hw3, hgm]; exact heap_alloc_new w2 _, ownF_stays (ownF_down (by rw [hL]; exact hof) HD1.out.2.1.size) hb3⟩
  have HD3 : Hid (Drawn wa w3 g B a len cap) := hide (drawn_trans HD1.out (drawn_newM HD1.out.1 HD1.out.2.2 hB (hb2.trans (hb3.mono hb2.size))))
  have HLg : Hid (wa.heap.size ≤ gm) := hide (by rw [hgm]; have := HD1.out.2.1.size; have := hb2.size; omega)
  have HGa : Hid (g < wa.heap.size) := hide (by have h1 := HGl.out; have h2 := HSa.out; omega)
  have HGm := hide hgm
  have HL := hide hL
  clear hof hb2 hb3 hfs htx hro hne hL HCp
  go_wp2_with fail
  rw [← HGm.out]
  try rw [← hw3]
  clear hw3 hgm
  refine (HB12.out _ HD3.out.1 HD3.out.2.2).mono ?_
  rintro e w4 ⟨x, hx, rfl, hd4⟩
  have HM4 := hide (mvar_grown HM3.out hd4.2.1 (by have h1 := HLg.out; have h2 := HGa.out; omega) HGa.out)
  have HD4 := hide (drawn_trans HD3.out hd4)
  clear hd4 HM3 HD3
  have c0 := (cell_at HM4.out.1 0).1
  have f0 := (cell_at HM4.out.1 0).2
  have c1 := (cell_at HM4.out.1 1).1
  have f1 := (cell_at HM4.out.1 1).2
  have c2 := (cell_at HM4.out.1 2).1
  have f2 := (cell_at HM4.out.1 2).2
  have c3 := (cell_at HM4.out.1 3).1
  have HS4 : Hid (∀ x y z, SmallM ⟨x, y, z, fs⟩) := hide (fun _ _ _ => ⟨by have := HSm.out.1; show fs.length ≤ 3; omega, fun f hf => by have := HSm.out.2 f hf; omega⟩)
  by_cases x0 : x = 0
  · subst x0
    have HPk := hide (pick_ints g B a len cap [-1, 0, 1, 100000, 100001] 5 rfl (by omega) (by omega) w4 w4.heap.size rfl HD4.out.1 HD4.out.2.2 hB _ rfl)
    go_wp2_with fail
    refine HPk.out.mono ?_
    rintro e w5 ⟨z, hz, rfl, hd5⟩
    have HM5 := hide (mvar_grown HM4.out hd5.2.1 (by have h1 := HLg.out; have h2 := HGa.out; omega) HGa.out)
    have HM6 := hide (mvar_tx HM5.out z)
    have HD6 := hide (drawn_lowM (drawn_trans HD4.out hd5) (below_cellM w5 gm 0 (.int .i64 z)) HLg.out (by have h1 := HLg.out; have h2 := HGa.out; omega) hB)
    have HS6 : Hid (SmallM ⟨z, root, next, fs⟩) := hide (HS4.out _ _ _)
    have q0 := (cell_at HM5.out.1 0).1
    have q1 := (cell_at HM5.out.1 0).2
    clear c0 f0 c1 f1 c2 f2 c3
    clear hd5 hz HPk
    have hend := any_endM HGl.out hB HDa.out HSa.out HVa.out HM6.out HD6.out HS6.out
    have m0 := (cell_at HM6.out.1 0).1
    have m1 := (cell_at HM6.out.1 1).1
    have m2 := (cell_at HM6.out.1 2).1
    have m3 := (cell_at HM6.out.1 3).1
    have a0 := (cell_at hend.1 0).1
    have a1 := (cell_at hend.1 1).1
    have a2 := (cell_at hend.1 2).1
    have a3 := (cell_at hend.1 3).1
    have z0 := (cell_at hend.1 0).2
    have z1 := (cell_at hend.1 1).2
    have z2 := (cell_at hend.1 2).2
    have z3 := (cell_at hend.1 3).2
    have HEnd := hide hend
    clear hend
    go_wp2_with fail
    have hrt := HEnd.out.2.1
    have t0 := (cell_at hrt 0).1
    have t1 := (cell_at hrt 1).1
    have t2 := (cell_at hrt 2).1
    have t3 := (cell_at hrt 3).1
    refine bodyPost_ret (v := .agg #[.int .i64 z, .int .i64 root, .int .i64 next, .slice aF L cF]) (by simp [results, Tryd.results82, go_sem, t0, t1, t2, t3]) rfl HEnd.out.2.2
  · have n0 : ((0 : Int) == (x : Int)) = false := by rw [beq_eq_false_iff_ne]; omega
    by_cases x1 : x = 1
    · subst x1
      have hn1 : 8 ≤ next := HNx.out.1
      have hn2 : next ≤ 27 := HNx.out.2
      have HPk := hide (pick_ints g B a len cap [-1, 1, next - 1, next] 4 rfl (by omega) (by omega) w4 w4.heap.size rfl HD4.out.1 HD4.out.2.2 hB _ rfl)
      go_wp2_with fail
      refine HPk.out.mono ?_
      rintro e w5 ⟨z, hz, rfl, hd5⟩
      have HM5 := hide (mvar_grown HM4.out hd5.2.1 (by have h1 := HLg.out; have h2 := HGa.out; omega) HGa.out)
      have HM6 := hide (mvar_root HM5.out z)
      have HD6 := hide (drawn_lowM (drawn_trans HD4.out hd5) (below_cellM w5 gm 1 (.int .i64 z)) HLg.out (by have h1 := HLg.out; have h2 := HGa.out; omega) hB)
      have HS6 : Hid (SmallM ⟨tx, z, next, fs⟩) := hide (HS4.out _ _ _)
      have q0 := (cell_at HM5.out.1 1).1
      have q1 := (cell_at HM5.out.1 1).2
      clear c0 f0 c1 f1 c2 f2 c3
      clear hd5 hz HPk
      have hend := any_endM HGl.out hB HDa.out HSa.out HVa.out HM6.out HD6.out HS6.out
      have m0 := (cell_at HM6.out.1 0).1
      have m1 := (cell_at HM6.out.1 1).1
      have m2 := (cell_at HM6.out.1 2).1
      have m3 := (cell_at HM6.out.1 3).1
      have a0 := (cell_at hend.1 0).1
      have a1 := (cell_at hend.1 1).1
      have a2 := (cell_at hend.1 2).1
      have a3 := (cell_at hend.1 3).1
      have z0 := (cell_at hend.1 0).2
      have z1 := (cell_at hend.1 1).2
      have z2 := (cell_at hend.1 2).2
      have z3 := (cell_at hend.1 3).2
      have HEnd := hide hend
      clear hend
      go_wp2_with fail
      have hrt := HEnd.out.2.1
      have t0 := (cell_at hrt 0).1
      have t1 := (cell_at hrt 1).1
      have t2 := (cell_at hrt 2).1
      have t3 := (cell_at hrt 3).1
      refine bodyPost_ret (v := .agg #[.int .i64 tx, .int .i64 z, .int .i64 next, .slice aF L cF]) (by simp [results, Tryd.results82, go_sem, t0, t1, t2, t3]) rfl HEnd.out.2.2
    · have n1 : ((1 : Int) == (x : Int)) = false := by rw [beq_eq_false_iff_ne]; omega
      by_cases x2 : x = 2
      · subst x2
        have HPk := hide (pick_ints g B a len cap [1, 2, 40, 41] 4 rfl (by omega) (by omega) w4 w4.heap.size rfl HD4.out.1 HD4.out.2.2 hB _ rfl)
        go_wp2_with fail
        refine HPk.out.mono ?_
        rintro e w5 ⟨z, hz, rfl, hd5⟩
        have HM5 := hide (mvar_grown HM4.out hd5.2.1 (by have h1 := HLg.out; have h2 := HGa.out; omega) HGa.out)
        have HM6 := hide (mvar_next HM5.out z)
        have HD6 := hide (drawn_lowM (drawn_trans HD4.out hd5) (below_cellM w5 gm 2 (.int .i64 z)) HLg.out (by have h1 := HLg.out; have h2 := HGa.out; omega) hB)
        have HS6 : Hid (SmallM ⟨tx, root, z, fs⟩) := hide (HS4.out _ _ _)
        have q0 := (cell_at HM5.out.1 2).1
        have q1 := (cell_at HM5.out.1 2).2
        clear c0 f0 c1 f1 c2 f2 c3
        clear hd5 hz HPk
        have hend := any_endM HGl.out hB HDa.out HSa.out HVa.out HM6.out HD6.out HS6.out
        have m0 := (cell_at HM6.out.1 0).1
        have m1 := (cell_at HM6.out.1 1).1
        have m2 := (cell_at HM6.out.1 2).1
        have m3 := (cell_at HM6.out.1 3).1
        have a0 := (cell_at hend.1 0).1
        have a1 := (cell_at hend.1 1).1
        have a2 := (cell_at hend.1 2).1
        have a3 := (cell_at hend.1 3).1
        have z0 := (cell_at hend.1 0).2
        have z1 := (cell_at hend.1 1).2
        have z2 := (cell_at hend.1 2).2
        have z3 := (cell_at hend.1 3).2
        have HEnd := hide hend
        clear hend
        go_wp2_with fail
        have hrt := HEnd.out.2.1
        have t0 := (cell_at hrt 0).1
        have t1 := (cell_at hrt 1).1
        have t2 := (cell_at hrt 2).1
        have t3 := (cell_at hrt 3).1
        refine bodyPost_ret (v := .agg #[.int .i64 tx, .int .i64 root, .int .i64 z, .slice aF L cF]) (by simp [results, Tryd.results82, go_sem, t0, t1, t2, t3]) rfl HEnd.out.2.2
      · have n2 : ((2 : Int) == (x : Int)) = false := by rw [beq_eq_false_iff_ne]; omega
        by_cases x3 : x = 3
        · subst x3
          have HPk : Hid (Calls Tryd.prog 113 #[.pointer (some ⟨g, 0, none⟩), .slice (some ⟨w4.heap.size, 0, none⟩) 3 3] (w4.alloc (Obj.cells #[.int .i64 0, .int .i64 3, .int .i64 50] 3)).drew fun e w' => ∃ z : Int, z ∈ [0, 3, 50] ∧ e = .returned (.int .i64 z) ∧ Drawn w4.drew w' g B a len cap) := hide (pick_ints g B a len cap [0, 3, 50] 3 rfl (by omega) (by omega) w4.drew w4.heap.size rfl HD4.out.1 HD4.out.2.2 hB _ rfl)
          have HB9 := hide (fun wx h h' => l01Below_any g B a len cap 9 (by omega) (by omega) wx h h' hB)
          have HNe : Hid (gm ≠ g) := hide (by have h1 := HLg.out; have h2 := HGa.out; omega)
          have HCo : Hid (∀ wx, MVar wx gm wa.heap.size tx root next (.slice aF L cF) l fs → wx.cell? ⟨gm, 3, none⟩ = some (.slice aF L cF) ∧ (∀ o, (wx.alloc o).cell? ⟨gm, 3, none⟩ = some (.slice aF L cF)) ∧ ∀ o o', ((wx.alloc o).alloc o').cell? ⟨gm, 3, none⟩ = some (.slice aF L cF)) := hide (fun wx h => ⟨(cell_at h.1 3).1, fun o => (cell_at (mvar_below h ((Below.refl _ _).alloc (Nat.le_refl _) o)).1 3).1, fun o o' => (cell_at (mvar_below (mvar_below h ((Below.refl _ _).alloc (Nat.le_refl _) o)) ((Below.refl _ _).alloc (Nat.le_refl _) o')).1 3).1⟩)
          have hL2 : L ≤ 2 := by have h1 := HL.out; have h2 := HSm.out.1; omega
          obtain ⟨g41, g42, g43⟩ := HCo.out w4 HM4.out
          clear c0 f0 c1 f1 c2 f2 c3
          go_wp2_with fail
          go_region_law (first | (refine step_call2 _ ?_ 113 Tryd.f113 Tryd.func113 ?_ ?_ (.tmp 36) (.tmp 37) #[79, 25] ?_ (.pointer (some ⟨g, 0, none⟩)) (.slice (some ⟨w4.heap.size, 0, none⟩) 3 3) ?_ ?_ _ HPk.out ?_; exact rfl; decide; exact Option.some_ne_none _; exact rfl; exact rfl; exact rfl; rintro e w5 ⟨z, hz, rfl, hd5⟩; refine ⟨_, rfl, ?_⟩; have HM5 := hide (mvar_grown (show MVar w4.drew gm wa.heap.size _ _ _ _ _ _ from HM4.out) hd5.2.1 HNe.out HGa.out); have HD5 := hide (drawn_trans (show Drawn wa w4.drew g B a len cap from ⟨HD4.out.1, grM_dr HD4.out.2.1, HD4.out.2.2⟩) hd5); obtain ⟨g51, g52, g53⟩ := HCo.out w5 HM5.out; clear hz hd5) | (refine step_call2 _ ?_ 81 Tryd.f81 Tryd.func81 ?_ ?_ (.tmp 39) (.const (.int .i64 9)) #[79, 3] ?_ (.pointer (some ⟨g, 0, none⟩)) (.int .i64 9) ?_ ?_ _ (HB9.out w5 HD5.out.1 HD5.out.2.2) ?_; exact rfl; decide; exact Option.some_ne_none _; exact rfl; exact rfl; exact rfl; rintro e w6 ⟨y, hy, rfl, hd6⟩; refine ⟨_, rfl, ?_⟩; have HMy := hide (mvar_grown HM5.out hd6.2.1 HNe.out HGa.out); have HDy := hide (drawn_trans HD5.out hd6); obtain ⟨g61, g62, g63⟩ := HCo.out w6 HMy.out; clear hy hd6) | (refine step_append_lies _ ?_ (.tmp 35) (.tmp 43) 38 ?_ wa.heap.size 110 i1 (.agg #[.int .i64 0, .slice none 0 0]) 2 32 Tryd.underlying38 hi1 hy0 hy1 hy2 ?_ ?_ (.slice aF L cF) L (frs l) ?_ (((mvarRow HMy.out HL.out).alloc _).alloc _) ⟨w6.heap.size + 1, 0, none⟩ 1 1 [.int .i64 z, .slice (some ⟨w6.heap.size, 0, none⟩) 1 1] ?_ ?_ (free_cells (w6.alloc _) _ (by simp) _ _) ?_ ?_ ?_ ?_ ?_ _ rfl ?_; exact rfl; exact rfl; exact rfl; decide; exact rfl; exact rfl; exact rfl; (intro u hu; simp at hu; rcases hu with rfl | rfl <;> rfl); decide; (unfold maxLen; omega); omega; (have h1 := mvar_lt HMy.out; have h2 := HLg.out; simp; omega); intro b8 d8 w8 hown8 hg8 hb8 hl8; have hst := any_free HMy.out HL.out HLg.out hown8 hg8; have cc8 := hst.2.2.1; have cf8 := hst.2.2.2; have HM6 := hide hst.1; have HD6 := hide (drawn_lowM (drawn_lowM HDy.out ((Below.refl _ _).alloc (Nat.le_refl _) _) HDy.out.2.1.size (cur_lt HDy.out.1) hB) hst.2.1 (Nat.le_refl _) HGa.out hB); clear hown8 hg8 hb8 hl8 hst))
          all_goals
            have HS6 : Hid (SmallM ⟨tx, root, next, fs ++ [(z, [(y : Int)])]⟩) := hide ⟨by have := HSm.out.1; show (fs ++ [(z, [(y : Int)])]).length ≤ 3; rw [List.length_append, List.length_singleton]; omega, fun f hf => by
              rcases List.mem_append.1 hf with hf | hf
              · have := HSm.out.2 f hf; omega
              · rw [List.mem_singleton] at hf; subst hf; show 1 ≤ 3; omega⟩
            clear g41 g42 g43 g51 g52 g53 g61 g62 g63
            have hend := any_endM HGl.out hB HDa.out HSa.out HVa.out HM6.out HD6.out HS6.out
            have m0 := (cell_at HM6.out.1 0).1
            have m1 := (cell_at HM6.out.1 1).1
            have m2 := (cell_at HM6.out.1 2).1
            have m3 := (cell_at HM6.out.1 3).1
            have a0 := (cell_at hend.1 0).1
            have a1 := (cell_at hend.1 1).1
            have a2 := (cell_at hend.1 2).1
            have a3 := (cell_at hend.1 3).1
            have z0 := (cell_at hend.1 0).2
            have z1 := (cell_at hend.1 1).2
            have z2 := (cell_at hend.1 2).2
            have z3 := (cell_at hend.1 3).2
            have HEnd := hide hend
            clear hend
            go_wp2_with fail
            have hrt := HEnd.out.2.1
            have t0 := (cell_at hrt 0).1
            have t1 := (cell_at hrt 1).1
            have t2 := (cell_at hrt 2).1
            have t3 := (cell_at hrt 3).1
            refine bodyPost_ret (v := .agg #[.int .i64 tx, .int .i64 root, .int .i64 next, .slice (some ⟨b8, 0, none⟩) (L + 1) d8]) (by simp [results, Tryd.results82, go_sem, t0, t1, t2, t3]) rfl HEnd.out.2.2
        · have n3 : ((3 : Int) == (x : Int)) = false := by rw [beq_eq_false_iff_ne]; omega
          by_cases x4 : x = 4
          · subst x4
            by_cases hL0 : L = 0
            · subst hL0
              have HM6 := HM4
              have HD6 := HD4
              have HS6 : Hid (SmallM ⟨tx, root, next, fs⟩) := hide (HS4.out _ _ _)
              clear c0 f0 c1 f1 c2 f2
              have hend := any_endM HGl.out hB HDa.out HSa.out HVa.out HM6.out HD6.out HS6.out
              have m0 := (cell_at HM6.out.1 0).1
              have m1 := (cell_at HM6.out.1 1).1
              have m2 := (cell_at HM6.out.1 2).1
              have m3 := (cell_at HM6.out.1 3).1
              have a0 := (cell_at hend.1 0).1
              have a1 := (cell_at hend.1 1).1
              have a2 := (cell_at hend.1 2).1
              have a3 := (cell_at hend.1 3).1
              have z0 := (cell_at hend.1 0).2
              have z1 := (cell_at hend.1 1).2
              have z2 := (cell_at hend.1 2).2
              have z3 := (cell_at hend.1 3).2
              have HEnd := hide hend
              clear hend
              go_wp2_with fail
              have hrt := HEnd.out.2.1
              have t0 := (cell_at hrt 0).1
              have t1 := (cell_at hrt 1).1
              have t2 := (cell_at hrt 2).1
              have t3 := (cell_at hrt 3).1
              refine bodyPost_ret (v := .agg #[.int .i64 tx, .int .i64 root, .int .i64 next, .slice aF 0 cF]) (by simp [results, Tryd.results82, go_sem, t0, t1, t2, t3]) rfl HEnd.out.2.2

            · have e3 : decide ((0 : Int) < (L : Int)) = true := decide_eq_true (by omega)
              have e4 : decide (0 < L) = true := decide_eq_true (by omega)
              have hL1 : (0 : Int) < (L : Int) := by omega
              obtain ⟨bF, l', fs', x, vp, ps, hlc, hfc, haF⟩ := any_first HM4.out HL.out hL0
              subst haF
              subst hlc
              subst hfc
              have hrow := (HM4.out.2.2.2.1 0 (x, vp) (x, ps) (by simp) rfl rfl).2
              obtain ⟨bp, cp, hvp⟩ := row_full hrow (HFp.out (x, ps) (by simp))
              subst hvp
              obtain ⟨p0, ps', hps⟩ : ∃ p0 ps', ps = p0 :: ps' := by
                cases ps with
                | nil => have := HFp.out (x, []) (by simp); simp at this
                | cons p0 ps' => exact ⟨p0, ps', rfl⟩
              obtain ⟨NP, hNP⟩ : ∃ NP, NP = ps.length := ⟨_, rfl⟩
              have cP : w4.cell? ⟨bF, 1, none⟩ = some (.slice (some ⟨bp, 0, none⟩) ps.length cp) := by rw [(mvarRow HM4.out HL.out).cellAt 1 (by omega)]; rfl
              have c00 : w4.cell? ⟨bp, 0, none⟩ = some (.int .i64 p0) := by rw [hrow.cellAt 0 (by rw [hps]; simp)]; rw [hps]; rfl
              have hN1 : (0 : Int) < (NP : Int) := by rw [hNP, hps]; simp
              rw [← hNP] at cP
              have cPo : ∀ o, (w4.alloc o).cell? ⟨bF, 1, none⟩ = some (.slice (some ⟨bp, 0, none⟩) NP cp) := fun o => by rw [((Below.refl w4.heap.size w4).alloc (Nat.le_refl _) o).cell (HM4.out.2.1.lt bF rfl).2]; exact cP
              have HNP := hide hNP
              have hN3 : NP ≤ 2 := by have := HSm.out.2 (x, ps) (by simp); rw [hNP]; exact this
              have HOd : Hid ((w4.alloc (Obj.cells #[.int .i64 p0] 3)).drew.ownsRow wa.heap.size 3 1 (.slice (some ⟨bp, 0, none⟩) NP cp) NP (ints ps)) := hide (by rw [hNP]; exact hrow.alloc (Obj.cells #[.int .i64 p0] 3))
              have HBs : Hid (wa.heap.size ≤ w4.heap.size) := hide HD4.out.2.1.size
              have HBd : Hid (wa.heap.size ≤ (w4.alloc (Obj.cells #[.int .i64 p0] 3)).heap.size) := hide (by have := HBs.out; simp; omega)
              have hS0 := (cell_at HM4.out.1 3).1
              have HSal : Hid (∀ o, (w4.alloc o).cell? ⟨gm, 3, none⟩ = some (.slice (some ⟨bF, 0, none⟩) L cF)) := hide (fun o => (cell_at (mvar_below HM4.out ((Below.refl _ _).alloc (Nat.le_refl _) o)).1 3).1)
              rw [← hNP] at HM4
              have hLn : 0 < L := by omega
              have hNn : 0 < NP := by omega
              clear c0 f0 c1 f1 c2 f2 hL0 hrow hNP hps
              go_wp2_with fail
              refine wp_region_held_drew (S := fun wx => wx.cell? ⟨gm, 3, none⟩ = some (.slice (some ⟨bF, 0, none⟩) L cF)) (by kernel_rfl) hS0 (fun hHeld => ?_)
              refine takeM 0 52 ?_ rfl rfl (by kernel_rfl) (by kernel_rfl) (by kernel_rfl) (fun _ _ _ h => h) (Or.inl ⟨by rfl, ?_⟩) hHeld ?_
              rotate_left
              · (intro wx hSw; (try dsimp only at hSw); go_simp; try with_reducible rfl)
              simp only [List.setIfInBounds_toArray, List.set_cons_zero, List.set_cons_succ]
              refine takeM 1 53 ?_ rfl rfl (by kernel_rfl) (by kernel_rfl) (by kernel_rfl) (fun _ _ _ h => h) (Or.inl ⟨by rfl, ?_⟩) hHeld ?_
              rotate_left
              · (intro wx hSw; (try dsimp only at hSw); go_simp; try with_reducible rfl)
              simp only [List.setIfInBounds_toArray, List.set_cons_zero, List.set_cons_succ]
              refine takeM 2 54 ?_ rfl rfl (by kernel_rfl) (by kernel_rfl) (by kernel_rfl) (fun _ _ _ h => h) (Or.inl ⟨by rfl, ?_⟩) hHeld ?_
              rotate_left
              · (intro wx hSw; (try dsimp only at hSw); go_simp; try with_reducible rfl)
              simp only [List.setIfInBounds_toArray, List.set_cons_zero, List.set_cons_succ]
              refine takeM 3 55 ?_ rfl rfl (by kernel_rfl) (by kernel_rfl) (by kernel_rfl) (fun _ _ _ h => h) (Or.inl ⟨by rfl, ?_⟩) hHeld ?_
              rotate_left
              · (intro wx hSw; (try dsimp only at hSw); go_simp; try with_reducible rfl)
              simp only [List.setIfInBounds_toArray, List.set_cons_zero, List.set_cons_succ]
              refine takeM 4 56 ?_ rfl rfl (by kernel_rfl) (by kernel_rfl) (by kernel_rfl) (fun _ _ _ h => h) (Or.inl ⟨by rfl, ?_⟩) hHeld ?_
              rotate_left
              · (intro wx hSw; (try dsimp only at hSw); go_simp; try with_reducible rfl)
              simp only [List.setIfInBounds_toArray, List.set_cons_zero, List.set_cons_succ]
              refine takeM 5 57 ?_ rfl rfl (by kernel_rfl) (by kernel_rfl) (by kernel_rfl) (fun _ _ _ h => h) (Or.inl ⟨by rfl, ?_⟩) hHeld ?_
              rotate_left
              · (intro wx hSw; (try dsimp only at hSw); go_simp; try with_reducible rfl)
              simp only [List.setIfInBounds_toArray, List.set_cons_zero, List.set_cons_succ]
              refine takeM 7 59 ?_ rfl rfl (by kernel_rfl) (by kernel_rfl) (by kernel_rfl) (fun _ _ _ h => h) (Or.inl ⟨by rfl, ?_⟩) hHeld ?_
              rotate_left
              · (intro wx hSw; (try dsimp only at hSw); go_simp; try with_reducible rfl)
              simp only [List.setIfInBounds_toArray, List.set_cons_zero, List.set_cons_succ]
              refine takeM 8 60 ?_ rfl rfl (by kernel_rfl) (by kernel_rfl) (by kernel_rfl) (fun _ _ _ h => h) (Or.inl ⟨by rfl, ?_⟩) hHeld ?_
              rotate_left
              · (intro wx hSw; (try dsimp only at hSw); go_simp; try with_reducible rfl)
              simp only [List.setIfInBounds_toArray, List.set_cons_zero, List.set_cons_succ]
              refine takeM 9 61 ?_ rfl rfl (by kernel_rfl) (by kernel_rfl) (by kernel_rfl) (fun _ _ _ h => h) (Or.inl ⟨by rfl, ?_⟩) hHeld ?_
              rotate_left
              · (intro wx hSw; (try dsimp only at hSw); go_simp; try with_reducible rfl)
              simp only [List.setIfInBounds_toArray, List.set_cons_zero, List.set_cons_succ]
              refine takeM 10 62 ?_ rfl rfl (by kernel_rfl) (by kernel_rfl) (by kernel_rfl) (fun _ _ _ h => h) (Or.inl ⟨by rfl, ?_⟩) hHeld ?_
              rotate_left
              · (intro wx hSw; (try dsimp only at hSw); go_simp; try with_reducible rfl)
              simp only [List.setIfInBounds_toArray, List.set_cons_zero, List.set_cons_succ]
              refine wpAnyH_ready (rs := [6, 11]) (by kernel_rfl) (by simp) ?_
              refine AllReadyH.cons rfl (fun K hK => ?_) ?_
              · go_simp
                refine hK.out _ _ hHeld (fun hHeld => ?_)
                clear hK K
                refine wpAnyH_ready (rs := [11]) (by kernel_rfl) (by simp) ?_
                refine AllReadyH.cons rfl (fun K hK => ?_) ?_
                · go_simp
                  refine hK.out _ _ hHeld (fun hHeld => ?_)
                  clear hK K
                  refine takeM 12 64 ?_ rfl rfl (by kernel_rfl) (by kernel_rfl) (by kernel_rfl) (fun _ _ _ h => h) (Or.inl ⟨by rfl, ?_⟩) hHeld ?_
                  rotate_left
                  · (intro wx hSw; (try dsimp only at hSw); go_simp; try with_reducible rfl)
                  simp only [List.setIfInBounds_toArray, List.set_cons_zero, List.set_cons_succ]
                  refine wpAnyH_ready (rs := [13]) (by kernel_rfl) (by simp) ?_
                  refine AllReadyH.cons rfl (fun K hK => ?_) ?_
                  · go_simp
                    refine hK.out _ _ hHeld (fun hHeld => ?_)
                    clear hK K
                    refine wpAnyH_ready (rs := [14]) (by kernel_rfl) (by simp) ?_
                    refine AllReadyH.cons rfl (fun K hK => ?_) ?_
                    · go_simp
                      refine hK.out _ _ (HSal.out _) (fun hHeld => ?_)
                      clear hK K
                      refine wpAnyH_ready (rs := [15]) (by kernel_rfl) (by simp) ?_
                      refine AllReadyH.cons rfl (fun K hK => ?_) ?_
                      · (refine step_append_lies _ ?_ (.tmp 58) (.tmp 66) 25 ?_ wa.heap.size 3 i0 (.int .i64 0) 1 8 Tryd.underlying25 hi hz0 hz1 hz2 ?_ ?_ (.slice (some ⟨bp, 0, none⟩) NP cp) NP (ints ps) ?_ ?_ ⟨w4.heap.size, 0, none⟩ 1 1 [.int .i64 p0] ?_ ?_ ?_ ?_ ?_ ?_ ?_ ?_ _ rfl ?_; exact rfl; exact rfl; exact rfl; decide; exact rfl; exact HOd.out; exact rfl; exact rfl; exact one_newM w4 _ rfl (.int .i64 p0) 3; (intro u hu; simp at hu; subst hu; rfl); decide; (unfold maxLen; omega); omega; exact HBd.out; intro b8 d8 w8 hown8 hg8 hb8 hl8; have hst := any_page HM4.out HL.out HNP.out hown8 (⟨hg8.os, hg8.tape, hg8.output, hg8.size, hg8.block⟩ : (w4.alloc (Obj.cells #[.int .i64 p0] 3)).grownBy w8 (some bp)) hb8 HBs.out; have cc8 := hst.2.2.2.1; have cf8 := hst.2.2.2.2; have hSb := hst.2.1; have hSs := (cell_at hst.1.1 3).1; have HM6 := hide hst.1; have HD6 := hide (drawn_lowM HD4.out hst.2.2.1 (Nat.le_refl _) HGa.out hB); clear hown8 hg8 hb8 hl8 hst)
                        refine hK.out (Act.put _ (some 67) _) _ hSb (fun hHeld => ?_)
                        clear hK K
                        simp only [Act.put, List.setIfInBounds_toArray, List.set_cons_zero, List.set_cons_succ]
                        refine takeM 16 68 ?_ rfl rfl (by kernel_rfl) (by kernel_rfl) (by kernel_rfl) (fun _ _ _ h => h) (Or.inl ⟨by rfl, ?_⟩) hHeld ?_
                        rotate_left
                        · (intro wx hSw; (try dsimp only at hSw); go_simp; try with_reducible rfl)
                        simp only [List.setIfInBounds_toArray, List.set_cons_zero, List.set_cons_succ]
                        refine takeM 17 69 ?_ rfl rfl (by kernel_rfl) (by kernel_rfl) (by kernel_rfl) (fun _ _ _ h => h) (Or.inl ⟨by rfl, ?_⟩) hHeld ?_
                        rotate_left
                        · (intro wx hSw; (try dsimp only at hSw); go_simp; try with_reducible rfl)
                        simp only [List.setIfInBounds_toArray, List.set_cons_zero, List.set_cons_succ]
                        refine wpAnyH_ready (rs := [18]) (by kernel_rfl) (by simp) ?_
                        refine AllReadyH.cons rfl (fun K hK => ?_) ?_
                        · go_simp
                          refine hK.out _ _ hSs (fun hHeld => ?_)
                          clear hK K
                          refine wpAnyH_done (by kernel_rfl) ?_ _
                          have HS6 : Hid (SmallM ⟨tx, root, next, (x, ps ++ [p0]) :: fs'⟩) := hide ⟨by have := HSm.out.1; simp at this ⊢; omega, fun f hf => by
                            rcases List.mem_cons.1 hf with hf | hf
                            · subst hf
                              have := HSm.out.2 (x, ps) (by simp)
                              simp at this ⊢
                              omega
                            · have := HSm.out.2 f (List.mem_cons_of_mem _ hf)
                              omega⟩
                          clear cP cPo c00 cc8 cf8 hSb hSs hS0 hHeld
                          have hend := any_endM HGl.out hB HDa.out HSa.out HVa.out HM6.out HD6.out HS6.out
                          have m0 := (cell_at HM6.out.1 0).1
                          have m1 := (cell_at HM6.out.1 1).1
                          have m2 := (cell_at HM6.out.1 2).1
                          have m3 := (cell_at HM6.out.1 3).1
                          have a0 := (cell_at hend.1 0).1
                          have a1 := (cell_at hend.1 1).1
                          have a2 := (cell_at hend.1 2).1
                          have a3 := (cell_at hend.1 3).1
                          have z0 := (cell_at hend.1 0).2
                          have z1 := (cell_at hend.1 1).2
                          have z2 := (cell_at hend.1 2).2
                          have z3 := (cell_at hend.1 3).2
                          have HEnd := hide hend
                          clear hend
                          go_wp2_with fail
                          have hrt := HEnd.out.2.1
                          have t0 := (cell_at hrt 0).1
                          have t1 := (cell_at hrt 1).1
                          have t2 := (cell_at hrt 2).1
                          have t3 := (cell_at hrt 3).1
                          refine bodyPost_ret (v := .agg #[.int .i64 tx, .int .i64 root, .int .i64 next, .slice (some ⟨bF, 0, none⟩) L cF]) (by simp [results, Tryd.results82, go_sem, t0, t1, t2, t3]) rfl HEnd.out.2.2
                        exact AllReadyH.nil
                      exact AllReadyH.nil
                    exact AllReadyH.nil
                  exact AllReadyH.nil
                exact AllReadyH.nil
              refine AllReadyH.cons rfl (fun K hK => ?_) ?_
              · go_simp
                refine hK.out _ _ hHeld (fun hHeld => ?_)
                clear hK K
                refine takeM 12 64 ?_ rfl rfl (by kernel_rfl) (by kernel_rfl) (by kernel_rfl) (fun _ _ _ h => h) (Or.inl ⟨by rfl, ?_⟩) hHeld ?_
                rotate_left
                · (intro wx hSw; (try dsimp only at hSw); go_simp; try with_reducible rfl)
                simp only [List.setIfInBounds_toArray, List.set_cons_zero, List.set_cons_succ]
                refine wpAnyH_ready (rs := [6, 13]) (by kernel_rfl) (by simp) ?_
                refine AllReadyH.cons rfl (fun K hK => ?_) ?_
                · go_simp
                  refine hK.out _ _ hHeld (fun hHeld => ?_)
                  clear hK K
                  refine wpAnyH_ready (rs := [13]) (by kernel_rfl) (by simp) ?_
                  refine AllReadyH.cons rfl (fun K hK => ?_) ?_
                  · go_simp
                    refine hK.out _ _ hHeld (fun hHeld => ?_)
                    clear hK K
                    refine wpAnyH_ready (rs := [14]) (by kernel_rfl) (by simp) ?_
                    refine AllReadyH.cons rfl (fun K hK => ?_) ?_
                    · go_simp
                      refine hK.out _ _ (HSal.out _) (fun hHeld => ?_)
                      clear hK K
                      refine wpAnyH_ready (rs := [15]) (by kernel_rfl) (by simp) ?_
                      refine AllReadyH.cons rfl (fun K hK => ?_) ?_
                      · (refine step_append_lies _ ?_ (.tmp 58) (.tmp 66) 25 ?_ wa.heap.size 3 i0 (.int .i64 0) 1 8 Tryd.underlying25 hi hz0 hz1 hz2 ?_ ?_ (.slice (some ⟨bp, 0, none⟩) NP cp) NP (ints ps) ?_ ?_ ⟨w4.heap.size, 0, none⟩ 1 1 [.int .i64 p0] ?_ ?_ ?_ ?_ ?_ ?_ ?_ ?_ _ rfl ?_; exact rfl; exact rfl; exact rfl; decide; exact rfl; exact HOd.out; exact rfl; exact rfl; exact one_newM w4 _ rfl (.int .i64 p0) 3; (intro u hu; simp at hu; subst hu; rfl); decide; (unfold maxLen; omega); omega; exact HBd.out; intro b8 d8 w8 hown8 hg8 hb8 hl8; have hst := any_page HM4.out HL.out HNP.out hown8 (⟨hg8.os, hg8.tape, hg8.output, hg8.size, hg8.block⟩ : (w4.alloc (Obj.cells #[.int .i64 p0] 3)).grownBy w8 (some bp)) hb8 HBs.out; have cc8 := hst.2.2.2.1; have cf8 := hst.2.2.2.2; have hSb := hst.2.1; have hSs := (cell_at hst.1.1 3).1; have HM6 := hide hst.1; have HD6 := hide (drawn_lowM HD4.out hst.2.2.1 (Nat.le_refl _) HGa.out hB); clear hown8 hg8 hb8 hl8 hst)
                        refine hK.out (Act.put _ (some 67) _) _ hSb (fun hHeld => ?_)
                        clear hK K
                        simp only [Act.put, List.setIfInBounds_toArray, List.set_cons_zero, List.set_cons_succ]
                        refine takeM 16 68 ?_ rfl rfl (by kernel_rfl) (by kernel_rfl) (by kernel_rfl) (fun _ _ _ h => h) (Or.inl ⟨by rfl, ?_⟩) hHeld ?_
                        rotate_left
                        · (intro wx hSw; (try dsimp only at hSw); go_simp; try with_reducible rfl)
                        simp only [List.setIfInBounds_toArray, List.set_cons_zero, List.set_cons_succ]
                        refine takeM 17 69 ?_ rfl rfl (by kernel_rfl) (by kernel_rfl) (by kernel_rfl) (fun _ _ _ h => h) (Or.inl ⟨by rfl, ?_⟩) hHeld ?_
                        rotate_left
                        · (intro wx hSw; (try dsimp only at hSw); go_simp; try with_reducible rfl)
                        simp only [List.setIfInBounds_toArray, List.set_cons_zero, List.set_cons_succ]
                        refine wpAnyH_ready (rs := [18]) (by kernel_rfl) (by simp) ?_
                        refine AllReadyH.cons rfl (fun K hK => ?_) ?_
                        · go_simp
                          refine hK.out _ _ hSs (fun hHeld => ?_)
                          clear hK K
                          refine wpAnyH_done (by kernel_rfl) ?_ _
                          have HS6 : Hid (SmallM ⟨tx, root, next, (x, ps ++ [p0]) :: fs'⟩) := hide ⟨by have := HSm.out.1; simp at this ⊢; omega, fun f hf => by
                            rcases List.mem_cons.1 hf with hf | hf
                            · subst hf
                              have := HSm.out.2 (x, ps) (by simp)
                              simp at this ⊢
                              omega
                            · have := HSm.out.2 f (List.mem_cons_of_mem _ hf)
                              omega⟩
                          clear cP cPo c00 cc8 cf8 hSb hSs hS0 hHeld
                          have hend := any_endM HGl.out hB HDa.out HSa.out HVa.out HM6.out HD6.out HS6.out
                          have m0 := (cell_at HM6.out.1 0).1
                          have m1 := (cell_at HM6.out.1 1).1
                          have m2 := (cell_at HM6.out.1 2).1
                          have m3 := (cell_at HM6.out.1 3).1
                          have a0 := (cell_at hend.1 0).1
                          have a1 := (cell_at hend.1 1).1
                          have a2 := (cell_at hend.1 2).1
                          have a3 := (cell_at hend.1 3).1
                          have z0 := (cell_at hend.1 0).2
                          have z1 := (cell_at hend.1 1).2
                          have z2 := (cell_at hend.1 2).2
                          have z3 := (cell_at hend.1 3).2
                          have HEnd := hide hend
                          clear hend
                          go_wp2_with fail
                          have hrt := HEnd.out.2.1
                          have t0 := (cell_at hrt 0).1
                          have t1 := (cell_at hrt 1).1
                          have t2 := (cell_at hrt 2).1
                          have t3 := (cell_at hrt 3).1
                          refine bodyPost_ret (v := .agg #[.int .i64 tx, .int .i64 root, .int .i64 next, .slice (some ⟨bF, 0, none⟩) L cF]) (by simp [results, Tryd.results82, go_sem, t0, t1, t2, t3]) rfl HEnd.out.2.2
                        exact AllReadyH.nil
                      exact AllReadyH.nil
                    exact AllReadyH.nil
                  exact AllReadyH.nil
                refine AllReadyH.cons rfl (fun K hK => ?_) ?_
                · go_simp
                  refine hK.out _ _ hHeld (fun hHeld => ?_)
                  clear hK K
                  refine wpAnyH_ready (rs := [6, 14]) (by kernel_rfl) (by simp) ?_
                  refine AllReadyH.cons rfl (fun K hK => ?_) ?_
                  · go_simp
                    refine hK.out _ _ hHeld (fun hHeld => ?_)
                    clear hK K
                    refine wpAnyH_ready (rs := [14]) (by kernel_rfl) (by simp) ?_
                    refine AllReadyH.cons rfl (fun K hK => ?_) ?_
                    · go_simp
                      refine hK.out _ _ (HSal.out _) (fun hHeld => ?_)
                      clear hK K
                      refine wpAnyH_ready (rs := [15]) (by kernel_rfl) (by simp) ?_
                      refine AllReadyH.cons rfl (fun K hK => ?_) ?_
                      · (refine step_append_lies _ ?_ (.tmp 58) (.tmp 66) 25 ?_ wa.heap.size 3 i0 (.int .i64 0) 1 8 Tryd.underlying25 hi hz0 hz1 hz2 ?_ ?_ (.slice (some ⟨bp, 0, none⟩) NP cp) NP (ints ps) ?_ ?_ ⟨w4.heap.size, 0, none⟩ 1 1 [.int .i64 p0] ?_ ?_ ?_ ?_ ?_ ?_ ?_ ?_ _ rfl ?_; exact rfl; exact rfl; exact rfl; decide; exact rfl; exact HOd.out; exact rfl; exact rfl; exact one_newM w4 _ rfl (.int .i64 p0) 3; (intro u hu; simp at hu; subst hu; rfl); decide; (unfold maxLen; omega); omega; exact HBd.out; intro b8 d8 w8 hown8 hg8 hb8 hl8; have hst := any_page HM4.out HL.out HNP.out hown8 (⟨hg8.os, hg8.tape, hg8.output, hg8.size, hg8.block⟩ : (w4.alloc (Obj.cells #[.int .i64 p0] 3)).grownBy w8 (some bp)) hb8 HBs.out; have cc8 := hst.2.2.2.1; have cf8 := hst.2.2.2.2; have hSb := hst.2.1; have hSs := (cell_at hst.1.1 3).1; have HM6 := hide hst.1; have HD6 := hide (drawn_lowM HD4.out hst.2.2.1 (Nat.le_refl _) HGa.out hB); clear hown8 hg8 hb8 hl8 hst)
                        refine hK.out (Act.put _ (some 67) _) _ hSb (fun hHeld => ?_)
                        clear hK K
                        simp only [Act.put, List.setIfInBounds_toArray, List.set_cons_zero, List.set_cons_succ]
                        refine takeM 16 68 ?_ rfl rfl (by kernel_rfl) (by kernel_rfl) (by kernel_rfl) (fun _ _ _ h => h) (Or.inl ⟨by rfl, ?_⟩) hHeld ?_
                        rotate_left
                        · (intro wx hSw; (try dsimp only at hSw); go_simp; try with_reducible rfl)
                        simp only [List.setIfInBounds_toArray, List.set_cons_zero, List.set_cons_succ]
                        refine takeM 17 69 ?_ rfl rfl (by kernel_rfl) (by kernel_rfl) (by kernel_rfl) (fun _ _ _ h => h) (Or.inl ⟨by rfl, ?_⟩) hHeld ?_
                        rotate_left
                        · (intro wx hSw; (try dsimp only at hSw); go_simp; try with_reducible rfl)
                        simp only [List.setIfInBounds_toArray, List.set_cons_zero, List.set_cons_succ]
                        refine wpAnyH_ready (rs := [18]) (by kernel_rfl) (by simp) ?_
                        refine AllReadyH.cons rfl (fun K hK => ?_) ?_
                        · go_simp
                          refine hK.out _ _ hSs (fun hHeld => ?_)
                          clear hK K
                          refine wpAnyH_done (by kernel_rfl) ?_ _
                          have HS6 : Hid (SmallM ⟨tx, root, next, (x, ps ++ [p0]) :: fs'⟩) := hide ⟨by have := HSm.out.1; simp at this ⊢; omega, fun f hf => by
                            rcases List.mem_cons.1 hf with hf | hf
                            · subst hf
                              have := HSm.out.2 (x, ps) (by simp)
                              simp at this ⊢
                              omega
                            · have := HSm.out.2 f (List.mem_cons_of_mem _ hf)
                              omega⟩
                          clear cP cPo c00 cc8 cf8 hSb hSs hS0 hHeld
                          have hend := any_endM HGl.out hB HDa.out HSa.out HVa.out HM6.out HD6.out HS6.out
                          have m0 := (cell_at HM6.out.1 0).1
                          have m1 := (cell_at HM6.out.1 1).1
                          have m2 := (cell_at HM6.out.1 2).1
                          have m3 := (cell_at HM6.out.1 3).1
                          have a0 := (cell_at hend.1 0).1
                          have a1 := (cell_at hend.1 1).1
                          have a2 := (cell_at hend.1 2).1
                          have a3 := (cell_at hend.1 3).1
                          have z0 := (cell_at hend.1 0).2
                          have z1 := (cell_at hend.1 1).2
                          have z2 := (cell_at hend.1 2).2
                          have z3 := (cell_at hend.1 3).2
                          have HEnd := hide hend
                          clear hend
                          go_wp2_with fail
                          have hrt := HEnd.out.2.1
                          have t0 := (cell_at hrt 0).1
                          have t1 := (cell_at hrt 1).1
                          have t2 := (cell_at hrt 2).1
                          have t3 := (cell_at hrt 3).1
                          refine bodyPost_ret (v := .agg #[.int .i64 tx, .int .i64 root, .int .i64 next, .slice (some ⟨bF, 0, none⟩) L cF]) (by simp [results, Tryd.results82, go_sem, t0, t1, t2, t3]) rfl HEnd.out.2.2
                        exact AllReadyH.nil
                      exact AllReadyH.nil
                    exact AllReadyH.nil
                  refine AllReadyH.cons rfl (fun K hK => ?_) ?_
                  · go_simp
                    refine hK.out _ _ (HSal.out _) (fun hHeld => ?_)
                    clear hK K
                    refine wpAnyH_ready (rs := [6]) (by kernel_rfl) (by simp) ?_
                    refine AllReadyH.cons rfl (fun K hK => ?_) ?_
                    · go_simp
                      refine hK.out _ _ hHeld (fun hHeld => ?_)
                      clear hK K
                      refine wpAnyH_ready (rs := [15]) (by kernel_rfl) (by simp) ?_
                      refine AllReadyH.cons rfl (fun K hK => ?_) ?_
                      · (refine step_append_lies _ ?_ (.tmp 58) (.tmp 66) 25 ?_ wa.heap.size 3 i0 (.int .i64 0) 1 8 Tryd.underlying25 hi hz0 hz1 hz2 ?_ ?_ (.slice (some ⟨bp, 0, none⟩) NP cp) NP (ints ps) ?_ ?_ ⟨w4.heap.size, 0, none⟩ 1 1 [.int .i64 p0] ?_ ?_ ?_ ?_ ?_ ?_ ?_ ?_ _ rfl ?_; exact rfl; exact rfl; exact rfl; decide; exact rfl; exact HOd.out; exact rfl; exact rfl; exact one_newM w4 _ rfl (.int .i64 p0) 3; (intro u hu; simp at hu; subst hu; rfl); decide; (unfold maxLen; omega); omega; exact HBd.out; intro b8 d8 w8 hown8 hg8 hb8 hl8; have hst := any_page HM4.out HL.out HNP.out hown8 (⟨hg8.os, hg8.tape, hg8.output, hg8.size, hg8.block⟩ : (w4.alloc (Obj.cells #[.int .i64 p0] 3)).grownBy w8 (some bp)) hb8 HBs.out; have cc8 := hst.2.2.2.1; have cf8 := hst.2.2.2.2; have hSb := hst.2.1; have hSs := (cell_at hst.1.1 3).1; have HM6 := hide hst.1; have HD6 := hide (drawn_lowM HD4.out hst.2.2.1 (Nat.le_refl _) HGa.out hB); clear hown8 hg8 hb8 hl8 hst)
                        refine hK.out (Act.put _ (some 67) _) _ hSb (fun hHeld => ?_)
                        clear hK K
                        simp only [Act.put, List.setIfInBounds_toArray, List.set_cons_zero, List.set_cons_succ]
                        refine takeM 16 68 ?_ rfl rfl (by kernel_rfl) (by kernel_rfl) (by kernel_rfl) (fun _ _ _ h => h) (Or.inl ⟨by rfl, ?_⟩) hHeld ?_
                        rotate_left
                        · (intro wx hSw; (try dsimp only at hSw); go_simp; try with_reducible rfl)
                        simp only [List.setIfInBounds_toArray, List.set_cons_zero, List.set_cons_succ]
                        refine takeM 17 69 ?_ rfl rfl (by kernel_rfl) (by kernel_rfl) (by kernel_rfl) (fun _ _ _ h => h) (Or.inl ⟨by rfl, ?_⟩) hHeld ?_
                        rotate_left
                        · (intro wx hSw; (try dsimp only at hSw); go_simp; try with_reducible rfl)
                        simp only [List.setIfInBounds_toArray, List.set_cons_zero, List.set_cons_succ]
                        refine wpAnyH_ready (rs := [18]) (by kernel_rfl) (by simp) ?_
                        refine AllReadyH.cons rfl (fun K hK => ?_) ?_
                        · go_simp
                          refine hK.out _ _ hSs (fun hHeld => ?_)
                          clear hK K
                          refine wpAnyH_done (by kernel_rfl) ?_ _
                          have HS6 : Hid (SmallM ⟨tx, root, next, (x, ps ++ [p0]) :: fs'⟩) := hide ⟨by have := HSm.out.1; simp at this ⊢; omega, fun f hf => by
                            rcases List.mem_cons.1 hf with hf | hf
                            · subst hf
                              have := HSm.out.2 (x, ps) (by simp)
                              simp at this ⊢
                              omega
                            · have := HSm.out.2 f (List.mem_cons_of_mem _ hf)
                              omega⟩
                          clear cP cPo c00 cc8 cf8 hSb hSs hS0 hHeld
                          have hend := any_endM HGl.out hB HDa.out HSa.out HVa.out HM6.out HD6.out HS6.out
                          have m0 := (cell_at HM6.out.1 0).1
                          have m1 := (cell_at HM6.out.1 1).1
                          have m2 := (cell_at HM6.out.1 2).1
                          have m3 := (cell_at HM6.out.1 3).1
                          have a0 := (cell_at hend.1 0).1
                          have a1 := (cell_at hend.1 1).1
                          have a2 := (cell_at hend.1 2).1
                          have a3 := (cell_at hend.1 3).1
                          have z0 := (cell_at hend.1 0).2
                          have z1 := (cell_at hend.1 1).2
                          have z2 := (cell_at hend.1 2).2
                          have z3 := (cell_at hend.1 3).2
                          have HEnd := hide hend
                          clear hend
                          go_wp2_with fail
                          have hrt := HEnd.out.2.1
                          have t0 := (cell_at hrt 0).1
                          have t1 := (cell_at hrt 1).1
                          have t2 := (cell_at hrt 2).1
                          have t3 := (cell_at hrt 3).1
                          refine bodyPost_ret (v := .agg #[.int .i64 tx, .int .i64 root, .int .i64 next, .slice (some ⟨bF, 0, none⟩) L cF]) (by simp [results, Tryd.results82, go_sem, t0, t1, t2, t3]) rfl HEnd.out.2.2
                        exact AllReadyH.nil
                      exact AllReadyH.nil
                    exact AllReadyH.nil
                  exact AllReadyH.nil
                exact AllReadyH.nil
              exact AllReadyH.nil
          · have n4 : ((4 : Int) == (x : Int)) = false := by rw [beq_eq_false_iff_ne]; omega
            have HM6 := HM4
            have HD6 := HD4
            have HS6 : Hid (SmallM ⟨tx, root, next, fs⟩) := hide (HS4.out _ _ _)
            clear c0 f0 c1 f1 c2 f2 c3
            have hend := any_endM HGl.out hB HDa.out HSa.out HVa.out HM6.out HD6.out HS6.out
            have m0 := (cell_at HM6.out.1 0).1
            have m1 := (cell_at HM6.out.1 1).1
            have m2 := (cell_at HM6.out.1 2).1
            have m3 := (cell_at HM6.out.1 3).1
            have a0 := (cell_at hend.1 0).1
            have a1 := (cell_at hend.1 1).1
            have a2 := (cell_at hend.1 2).1
            have a3 := (cell_at hend.1 3).1
            have z0 := (cell_at hend.1 0).2
            have z1 := (cell_at hend.1 1).2
            have z2 := (cell_at hend.1 2).2
            have z3 := (cell_at hend.1 3).2
            have HEnd := hide hend
            clear hend
            go_wp2_with fail
            have hrt := HEnd.out.2.1
            have t0 := (cell_at hrt 0).1
            have t1 := (cell_at hrt 1).1
            have t2 := (cell_at hrt 2).1
            have t3 := (cell_at hrt 3).1
            refine bodyPost_ret (v := .agg #[.int .i64 tx, .int .i64 root, .int .i64 next, .slice aF L cF]) (by simp [results, Tryd.results82, go_sem, t0, t1, t2, t3]) rfl HEnd.out.2.2
end Go.Proofs.YtglcfaibgjiigaaDoor

namespace Go.Proofs.YtglcfaibgjiigaaDoor
open Go.RowKit

theorem drawn_lowB {w w' : World} {g B : Nat} {a : Option Addr} {len cap : Nat} (_hc : CurAt w g a len cap) (h : Drawn w w' g B a len cap) : Below g w w' :=
  ⟨h.2.1.os, h.2.1.tape, h.2.1.output, h.2.1.size, fun k hk => h.2.1.block k (by have := cur_lt _hc; omega) (fun e => by injection e with e; omega)⟩

set_option maxHeartbeats 2000000 in
set_option maxRecDepth 100000 in
theorem drawMetaText_any (a : Option Addr) (len cap : Nat) (w : World) (hd : CodeIn w w.heap.size a len) :
    Calls Tryd.prog 22 #[.slice a len cap] w fun e w' => ∃ m v, e = .returned v ∧ SmallM m ∧ MetaOwn w' w.heap.size v m ∧ Below w.heap.size w w' := by
  obtain ⟨wa, hwa⟩ : ∃ wa, wa = w.alloc (Obj.cells #[.int .i64 0, .int .i64 0, .int .i64 0, .slice none 0 0] 40) := ⟨_, rfl⟩
  have hba : Below w.heap.size w wa := by rw [hwa]; exact (Below.refl _ _).alloc (Nat.le_refl _) _
  have HBa := hide hba
  have HVa : Hid (wa.heap[w.heap.size]? = some (.cells #[.int .i64 0, .int .i64 0, .int .i64 0, .slice none 0 0] 40 (0, 0))) := hide (by rw [hwa]; exact heap_alloc_new w _)
  have HSa : Hid (wa.heap.size = w.heap.size + 1) := hide (by rw [hwa]; simp)
  have HN := hide (l01New_any a len cap wa (code_below hd hba))
  clear hd hba
  go_enter Tryd.func22, Tryd.ntmps22
  go_wp2_with fail
  rw [← hwa]
  clear hwa
  refine HN.out.mono ?_
  rintro e w1 ⟨rfl, hc1, hd1, hb1⟩
  have HC1 := hide hc1
  have HD1 := hide hd1
  have HB1 := hide hb1
  clear hc1 hd1 hb1
  go_wp2_with fail
  refine (l06Any_any wa.heap.size wa.heap.size a len cap w1 HC1.out HD1.out (Nat.le_refl _)).mono ?_
  rintro e w2 ⟨m, v, rfl, hn, hown, hdr⟩
  have hb2 : Below wa.heap.size w1 w2 := drawn_lowB HC1.out hdr
  have HB2 : Hid (Below w.heap.size w w2) := hide ((HBa.out.trans (HB1.out.mono HBa.out.size)).trans (hb2.mono HBa.out.size))
  have hv : w2.heap[w.heap.size]? = _ := (hb2.block _ (by rw [HSa.out]; omega)).trans ((HB1.out.block _ (by rw [HSa.out]; omega)).trans HVa.out)
  have HNn := hide hn
  obtain ⟨vf, l, rfl, hof⟩ := hown
  obtain ⟨aF, cF, rfl⟩ := own_slice hof.1
  have hsz := HB1.out.size
  have HRt := hide (ret_meta (B := w1.heap.size) (m := m) hv ⟨_, l, rfl, hof⟩ (by have := HSa.out; omega))
  have o0 := (cell_at hv 0).1
  have o1 := (cell_at hv 1).1
  have o2 := (cell_at hv 2).1
  have o3 := (cell_at hv 3).1
  have z0 := (cell_at hv 0).2
  have z1 := (cell_at hv 1).2
  have z2 := (cell_at hv 2).2
  have z3 := (cell_at hv 3).2
  have HSw : Hid (w.heap.size ≤ w1.heap.size) := hide (by have := HSa.out; omega)
  clear hof hv hb2 hdr hn hsz
  go_wp2_with fail
  have hrt := HRt.out
  have t0 := (cell_at hrt.1 0).1
  have t1 := (cell_at hrt.1 1).1
  have t2 := (cell_at hrt.1 2).1
  have t3 := (cell_at hrt.1 3).1
  exact bodyPost_ret (v := .agg #[.int .i64 m.tx, .int .i64 m.root, .int .i64 m.next, .slice aF m.fs.length cF]) (by simp [results, Tryd.results22, go_sem, t0, t1, t2, t3]) rfl ⟨m, _, rfl, HNn.out, metaOwn_down hrt.2.1 HSw.out, HB2.out.trans hrt.2.2⟩

set_option maxHeartbeats 2000000 in
set_option maxRecDepth 100000 in
theorem drawMeta_any (a : Option Addr) (len cap : Nat) (w : World) (hd : CodeIn w w.heap.size a len) :
    Calls Tryd.prog 31 #[.slice a len cap] w fun e w' => ∃ m v, e = .returned v ∧ DrawnM m ∧ MetaOwn w' w.heap.size v m ∧ Below w.heap.size w w' := by
  obtain ⟨wa, hwa⟩ : ∃ wa, wa = w.alloc (Obj.cells #[.int .i64 0, .int .i64 0, .int .i64 0, .slice none 0 0] 40) := ⟨_, rfl⟩
  have hba : Below w.heap.size w wa := by rw [hwa]; exact (Below.refl _ _).alloc (Nat.le_refl _) _
  have HBa := hide hba
  have HVa : Hid (wa.heap[w.heap.size]? = some (.cells #[.int .i64 0, .int .i64 0, .int .i64 0, .slice none 0 0] 40 (0, 0))) := hide (by rw [hwa]; exact heap_alloc_new w _)
  have HSa : Hid (wa.heap.size = w.heap.size + 1) := hide (by rw [hwa]; simp)
  have HN := hide (l01New_any a len cap wa (code_below hd hba))
  clear hd hba
  go_enter Tryd.func31, Tryd.ntmps31
  go_wp2_with fail
  rw [← hwa]
  clear hwa
  refine HN.out.mono ?_
  rintro e w1 ⟨rfl, hc1, hd1, hb1⟩
  have HC1 := hide hc1
  have HD1 := hide hd1
  have HB1 := hide hb1
  clear hc1 hd1 hb1
  go_wp2_with fail
  refine (l06Meta_any wa.heap.size wa.heap.size a len cap w1 HC1.out HD1.out (Nat.le_refl _)).mono ?_
  rintro e w2 ⟨m, v, rfl, hn, hown, hdr⟩
  have hb2 : Below wa.heap.size w1 w2 := drawn_lowB HC1.out hdr
  have HB2 : Hid (Below w.heap.size w w2) := hide ((HBa.out.trans (HB1.out.mono HBa.out.size)).trans (hb2.mono HBa.out.size))
  have hv : w2.heap[w.heap.size]? = _ := (hb2.block _ (by rw [HSa.out]; omega)).trans ((HB1.out.block _ (by rw [HSa.out]; omega)).trans HVa.out)
  have HNn := hide hn
  obtain ⟨vf, l, rfl, hof⟩ := hown
  obtain ⟨aF, cF, rfl⟩ := own_slice hof.1
  have hsz := HB1.out.size
  have HRt := hide (ret_meta (B := w1.heap.size) (m := m) hv ⟨_, l, rfl, hof⟩ (by have := HSa.out; omega))
  have o0 := (cell_at hv 0).1
  have o1 := (cell_at hv 1).1
  have o2 := (cell_at hv 2).1
  have o3 := (cell_at hv 3).1
  have z0 := (cell_at hv 0).2
  have z1 := (cell_at hv 1).2
  have z2 := (cell_at hv 2).2
  have z3 := (cell_at hv 3).2
  have HSw : Hid (w.heap.size ≤ w1.heap.size) := hide (by have := HSa.out; omega)
  clear hof hv hb2 hdr hn hsz
  go_wp2_with fail
  have hrt := HRt.out
  have t0 := (cell_at hrt.1 0).1
  have t1 := (cell_at hrt.1 1).1
  have t2 := (cell_at hrt.1 2).1
  have t3 := (cell_at hrt.1 3).1
  exact bodyPost_ret (v := .agg #[.int .i64 m.tx, .int .i64 m.root, .int .i64 m.next, .slice aF m.fs.length cF]) (by simp [results, Tryd.results31, go_sem, t0, t1, t2, t3]) rfl ⟨m, _, rfl, HNn.out, metaOwn_down hrt.2.1 HSw.out, HB2.out.trans hrt.2.2⟩
end Go.Proofs.YtglcfaibgjiigaaDoor

namespace Go.Proofs.YtglcfaibgjiigaaDoor
open Go.RowKit

theorem textO_size {m : Mt} : m.textO.size ≤ 240 := by
  rw [Mt.textO]
  cases h : m.good with
  | false => exact Nat.zero_le _
  | true =>
    have := good_size h
    simp only [if_true]
    rw [← ba_len, text_list, sealL_length]
    omega

set_option maxHeartbeats 4000000 in
set_option maxRecDepth 100000 in
theorem drawReadMeta_any (a : Option Addr) (len cap : Nat) (w : World) (hd : CodeIn w w.heap.size a len) :
    Calls Tryd.prog 29 #[.slice a len cap] w fun e w' => ∃ t : ByteArray, e = .returned (.string t) ∧ t.size ≤ 300 ∧ Below w.heap.size w w' := by
  have HN := hide (l01New_any a len cap w hd)
  clear hd
  go_enter Tryd.func29, Tryd.ntmps29
  go_wp2_with fail
  refine HN.out.mono ?_
  rintro e w1 ⟨rfl, hc1, hd1, hb1⟩
  have HC1 := hide hc1
  have HD1 := hide hd1
  have HB1 := hide hb1
  clear hc1 hd1 hb1
  go_wp2_with fail
  refine (l06Any_any w.heap.size w.heap.size a len cap w1 HC1.out HD1.out (Nat.le_refl _)).mono ?_
  rintro e w2 ⟨m, v, rfl, hn, hown, hdr⟩
  have HMt := hide (specMetaText_any v m (by have := hn.1; omega) (fun f hf => by have := hn.2 f hf; omega) w2 (meta_of_own hown))
  have HDr := hide hdr
  obtain ⟨s, hs⟩ : ∃ s, s = m.textO := ⟨_, rfl⟩
  have hsz : s.size ≤ 240 := by rw [hs]; exact textO_size
  rw [← hs] at HMt
  have HB2 : Hid (Below w.heap.size w w2) := hide (HB1.out.trans (drawn_lowB HC1.out hdr))
  clear hn hown hdr hs
  go_wp2_with fail
  refine HMt.out.mono ?_
  rintro e w3 ⟨rfl, hb3⟩
  have HD3 := hide (drawn_trans HDr.out (drawn_newM HDr.out.1 HDr.out.2.2 (Nat.le_refl _) hb3))
  have HB3 : Hid (Below w.heap.size w w3) := hide (HB2.out.trans (hb3.mono HB2.out.size))
  clear hb3
  go_wp2_with fail
  refine (l01Once_any w.heap.size w.heap.size a len cap 2 (by omega) (by omega) w3 HD3.out.1 HD3.out.2.2 (Nat.le_refl _)).mono ?_
  rintro e w4 ⟨b, rfl, hd4⟩
  have HD4 := hide (drawn_trans HD3.out hd4)
  have HB4 : Hid (Below w.heap.size w w4) := hide (HB3.out.trans (drawn_lowB HD3.out.1 hd4))
  clear hd4
  cases b with
  | false =>
    go_wp2_with fail
    go_ret
    exact ⟨s, rfl, by omega, HB4.out⟩
  | true =>
    obtain ⟨t, ok, hun, hts, -⟩ := text_un s
    have HUn := hide (specUnsealed_any s (by omega) w4)
    rw [hun] at HUn
    clear hun
    go_wp2_with fail
    refine HUn.out.mono ?_
    rintro e w5 ⟨rfl, hb5⟩
    have HD5 := hide (drawn_trans HD4.out (drawn_newM HD4.out.1 HD4.out.2.2 (Nat.le_refl _) hb5))
    have HB5 : Hid (Below w.heap.size w w5) := hide (HB4.out.trans (hb5.mono HB4.out.size))
    clear hb5
    cases ok with
    | false =>
      go_wp2_with fail
      go_ret
      exact ⟨s, rfl, by omega, HB5.out⟩
    | true =>
      go_wp2_with fail
      refine (l02Spoilt_any w.heap.size w.heap.size a len cap t (by omega) w5 HD5.out.1 HD5.out.2.2 (Nat.le_refl _)).mono ?_
      rintro e w6 ⟨u, hu, rfl, hd6⟩
      have HB6 : Hid (Below w.heap.size w w6) := hide (HB5.out.trans (drawn_lowB HD5.out.1 hd6))
      have hu2 : u.size ≤ 241 := by omega
      clear hd6 hu
      go_wp2_with fail
      refine (specSealed_yes u (by omega) w6).mono ?_
      rintro e w7 ⟨rfl, hb7⟩
      have HB7 : Hid (Below w.heap.size w w7) := hide (HB6.out.trans (hb7.mono HB6.out.size))
      clear hb7
      go_wp2_with fail
      go_ret
      refine ⟨_, rfl, ?_, HB7.out⟩
      rw [← ba_len]
      show (sealL u.data.toList).length ≤ 300
      rw [sealL_length, ba_len]
      omega
end Go.Proofs.YtglcfaibgjiigaaDoor
