/-
  spec.PartsOf by its contract: a row of its own of the line's parts, and true or false ('partsOut').
-/
import Derived.Test.YtimhnphodnnbeakDoorOwn
import Derived.Test.YtimhnphodnnbeakDoorPlain6
import Derived.WalkSpells
import Derived.WalkSmall
import Derived.Deep.LoopGhost
namespace Go.Proofs.YtimhnphodnnbeakDoor
open Go.RowKit

theorem Tryd.infoString : (Tryd.prog.info? 9).map (fun i => (i.zero, i.size, i.bytes)) = some (some (.string ByteArray.empty), 1, 16) := by kernel_rfl

/-- a new row of strings that is empty -/
theorem own_none (w : World) (B : Nat) (hB : B ≤ w.heap.size) : (w.alloc (.cells #[] 9)).ownsRow B 9 1 (.slice (some ⟨w.heap.size, 0, none⟩) 0 0) ([] : List (List UInt8)).length (strVs []) := by
  simpa [strVs] using World.ownsRow_lit (base := B) (e := 9) (size := 1) w #[] 0 hB (by unfold maxLen; omega) (by simp)

theorem one_str (w : World) (x : Value) : ∀ (j : Nat) (u : Value), [x][j]? = some u → (w.alloc (Obj.cells #[x] 9)).cell? ((⟨w.heap.size, 0, none⟩ : Addr).add j) = some u := by
  intro j u hj
  match j, hj with
  | 0, hj => simp at hj; subst hj; simp [Addr.add]

theorem own_snocS {w1 : World} {B n : Nat} {v : Value} {L : List (List UInt8)} {x : List UInt8} (hn : n = L.length) (h : w1.ownsRow B 9 1 v (n + 1) (strVs L ++ [strV x])) :
    w1.ownsRow B 9 1 v (L ++ [x]).length (strVs (L ++ [x])) := by
  subst hn
  simpa [strVs] using h

theorem own_shape {w : World} {B e sz n : Nat} {v : Value} {xs : List Value} (h : w.ownsRow B e sz v n xs) : ∃ ao cap, v = .slice ao n cap := by
  rcases h.2 with ⟨rfl, rfl⟩ | ⟨g, cap, cur, rfl, -⟩
  · exact ⟨none, 0, rfl⟩
  · exact ⟨_, _, rfl⟩

set_option maxHeartbeats 4000000 in
set_option maxRecDepth 100000 in
theorem specPartsOf_any (s : ByteArray) (hs : s.size ≤ 1048576) (w : World) :
    Calls Tryd.prog 7 #[.string s] w fun e w' => ∃ v, e = .returned (.tuple #[v, .bool (partsOut s).2]) ∧ w'.ownsRow w.heap.size 9 1 v (partsOut s).1.length (strVs (partsOut s).1) ∧ Below w.heap.size w w' := by
  obtain ⟨i0, hi, hz0, hz1, hz2⟩ := info_parts Tryd.infoString
  by_cases hbig : 600 < s.size
  · have HP : Hid (partsOut s = ([], false)) := hide (by rw [partsOut, if_neg (by omega)])
    go_enter Tryd.func7, Tryd.ntmps7
    go_wp2
    go_ret2
    rw [HP.out]
    exact ⟨_, rfl, own_none w w.heap.size (Nat.le_refl _), (Below.refl _ _).alloc (Nat.le_refl _) _⟩
  · have hq : decide ((600 : Int) < (s.size : Int)) = false := by simp; omega
    go_enter Tryd.func7, Tryd.ntmps7
    go_wp2
    go_loopg [4, 5, 6] (s.size + 2) (fun g v bv iv wr => ∃ (k b : Nat) (D : List (List UInt8)), k ≤ s.size + 1 ∧ b ≤ k ∧ bv = .int .i64 (b : Int) ∧ iv = .int .i64 (k : Int) ∧ g + k = s.size + 2 ∧
      D.length ≤ k ∧ Hid (∀ i, i < k → i < s.size → 32 ≤ byt s i ∧ byt s i ≤ 126) ∧ Hid (k ≤ s.size → D ++ toCome s b k = Lib.fields s.data.toList) ∧ Hid (s.size < k → D = Lib.fields s.data.toList) ∧
      wr.ownsRow w.heap.size 9 1 v D.length (strVs D) ∧ Below w.heap.size w wr)
    case atStart => exact ⟨0, 0, [], by omega, by omega, rfl, rfl, by omega, by simp, hide (fun i h => by omega), hide (fun _ => by rw [toCome_start]; rfl), hide (fun h => by omega), own_none w w.heap.size (Nat.le_refl _), (Below.refl _ _).alloc (Nat.le_refl _) _⟩
    case round =>
      obtain ⟨k, b, D, hk, hbk, rfl, rfl, hg, hDk, HA, HT, HE, hown, hb⟩ := hrel
      have HG := hide hg
      clear hg
      have hB := hb.size
      by_cases hin : k ≤ s.size
      · by_cases hlt : k < s.size
        · obtain ⟨y, hy⟩ : ∃ y, y = byt s k := ⟨_, rfl⟩
          have hyb : y < 256 := by rw [hy]; exact byt_lt s _
          have hs1 : s[k].toNat = y := by rw [hy]; exact byt_eq s _ hlt
          have HY := hide hy
          clear hy
          by_cases hpl : 32 ≤ y ∧ y ≤ 126
          · obtain ⟨hp1, hp2⟩ := hpl
            have HA' : Hid (∀ i, i < k + 1 → i < s.size → 32 ≤ byt s i ∧ byt s i ≤ 126) := hide (fun i h1 h2 => by by_cases e : i = k; (rw [e, ← HY.out]; exact ⟨hp1, hp2⟩); exact HA.out i (by omega) h2)
            by_cases hbl : y = 32
            · have hyn : ((y : Int) != 32) = false := by rw [bne_eq_false_iff_eq]; omega
              have HB : Hid (byt s k = 32) := hide (by rw [← HY.out]; exact hbl)
              clear hbl
              by_cases hw : b < k
              · have hsl : ∀ wx : World, (Instr.slice 9 (.string s) (some (.int .i64 (b : Int))) (some (.int .i64 (k : Int))) none).run Tryd.prog wx = .ok (.string (s.extract b k)) wx := fun wx => by
                  have := run_slice_string (P := Tryd.prog) wx 9 s .i64 .i64 (b : Int) (k : Int) Tryd.underlying9 (by omega) (by omega) (by omega)
                  rw [this, Int.toNat_natCast, Int.toNat_natCast]
                go_wp2_with (at_builtin; refine wpList_append_own _ rfl _ _ 24 rfl w.heap.size 9 i0 (.string ByteArray.empty) 1 16 Tryd.underlying24 hi hz0 hz1 hz2 rfl (by decide) _ _ _ rfl (hown.alloc _) ⟨wr.heap.size, 0, none⟩ 1 1 [.string (s.extract b k)] rfl rfl ?c1 ?c2 ?c3 ?c4 ?c5 ?_)
                case c1 => exact one_str _ _
                case c2 => intro u hu; simp at hu; subst hu; rfl
                case c3 => unfold maxLen; omega
                case c4 => omega
                case c5 => simp; omega
                intro v' w1 hown' hgrow _
                have hb1 : Below w.heap.size w w1 := below_grow hb hB hown ((Below.refl _ _).alloc hB _) hgrow
                have hown2 : w1.ownsRow w.heap.size 9 1 v' (D ++ [cutL s b k]).length (strVs (D ++ [cutL s b k])) := own_snocS rfl (by rw [strV_cut]; exact hown')
                clear hown' hgrow hown hb
                go_wp2
                go_roundg (gk - 1)
                case measure => have := HG.out; omega
                case rel => exact ⟨k + 1, k + 1, D ++ [cutL s b k], by omega, by omega, by go_num, by go_num, by have := HG.out; omega, by simp; omega, HA', hide (fun _ => by rw [← HT.out hin, toCome_blank s b k hw hlt HB.out]; simp), hide (fun h => by omega), hown2, hb1⟩
              · go_wp2
                go_roundg (gk - 1)
                case measure => have := HG.out; omega
                case rel => exact ⟨k + 1, k + 1, D, by omega, by omega, by go_num, by go_num, by have := HG.out; omega, by omega, HA', hide (fun _ => by have e : b = k := (by omega); rw [← HT.out hin, e, toCome_blank0 s k hlt HB.out]), hide (fun h => by omega), hown, hb⟩
            · have hyn : ((y : Int) != 32) = true := by rw [bne_iff_ne]; omega
              have HB : Hid (byt s k ≠ 32) := hide (by rw [← HY.out]; exact hbl)
              clear hbl
              go_wp2
              go_roundg (gk - 1)
              case measure => have := HG.out; omega
              case rel => exact ⟨k + 1, b, D, by omega, by omega, rfl, by go_num, by have := HG.out; omega, by omega, HA', hide (fun _ => by rw [← HT.out hin, toCome_letter s b k hbk hlt (by rw [← HY.out]; exact hp1) (by rw [← HY.out]; exact hp2) HB.out]), hide (fun h => by omega), hown, hb⟩
          · have HP : Hid (partsOut s = ([], false)) := hide (by rw [partsOut, if_neg (fun h => by have := plainB_no s k hlt (by rw [← HY.out]; exact hpl); rw [this] at h; simp at h)])
            by_cases h1 : y < 32
            · clear hpl
              go_wp2
              go_ret2
              rw [HP.out]
              exact ⟨_, rfl, own_none wr w.heap.size hB, hb.alloc hB _⟩
            · have h2 : 126 < y := by omega
              clear hpl
              go_wp2
              go_ret2
              rw [HP.out]
              exact ⟨_, rfl, own_none wr w.heap.size hB, hb.alloc hB _⟩
        · have hks : decide ((k : Int) < (s.size : Int)) = false := by simp; omega
          have HK : Hid (k = s.size) := hide (by omega)
          have HA' : Hid (∀ i, i < k + 1 → i < s.size → 32 ≤ byt s i ∧ byt s i ≤ 126) := hide (fun i h1 h2 => HA.out i (by have := HK.out; omega) h2)
          by_cases hw : b < k
          · have hsl : ∀ wx : World, (Instr.slice 9 (.string s) (some (.int .i64 (b : Int))) (some (.int .i64 (k : Int))) none).run Tryd.prog wx = .ok (.string (s.extract b k)) wx := fun wx => by
              have := run_slice_string (P := Tryd.prog) wx 9 s .i64 .i64 (b : Int) (k : Int) Tryd.underlying9 (by omega) (by omega) (by omega)
              rw [this, Int.toNat_natCast, Int.toNat_natCast]
            go_wp2_with (at_builtin; refine wpList_append_own _ rfl _ _ 24 rfl w.heap.size 9 i0 (.string ByteArray.empty) 1 16 Tryd.underlying24 hi hz0 hz1 hz2 rfl (by decide) _ _ _ rfl (hown.alloc _) ⟨wr.heap.size, 0, none⟩ 1 1 [.string (s.extract b k)] rfl rfl ?d1 ?d2 ?d3 ?d4 ?d5 ?_)
            case d1 => exact one_str _ _
            case d2 => intro u hu; simp at hu; subst hu; rfl
            case d3 => unfold maxLen; omega
            case d4 => omega
            case d5 => simp; omega
            intro v' w1 hown' hgrow _
            have hb1 : Below w.heap.size w w1 := below_grow hb hB hown ((Below.refl _ _).alloc hB _) hgrow
            have hown2 : w1.ownsRow w.heap.size 9 1 v' (D ++ [cutL s b k]).length (strVs (D ++ [cutL s b k])) := own_snocS rfl (by rw [strV_cut]; exact hown')
            clear hown' hgrow hown hb
            go_wp2
            go_roundg (gk - 1)
            case measure => have := HG.out; omega
            case rel => exact ⟨k + 1, k + 1, D ++ [cutL s b k], by omega, by omega, by go_num, by go_num, by have := HG.out; omega, by simp; omega, HA', hide (fun h => by omega), hide (fun _ => by have e := HK.out; have h := HT.out hin; rw [e, toCome_end s b (by omega)] at h; rw [e]; exact h), hown2, hb1⟩
          · go_wp2
            go_roundg (gk - 1)
            case measure => have := HG.out; omega
            case rel => exact ⟨k + 1, k + 1, D, by omega, by omega, by go_num, by go_num, by have := HG.out; omega, by omega, HA', hide (fun h => by omega), hide (fun _ => by have e := HK.out; have e2 : b = s.size := (by omega); have h := HT.out hin; rw [e, e2, toCome_end0, List.append_nil] at h; exact h), hown, hb⟩
      · have HF := hide (HE.out (by omega))
        have HPl : Hid (plainB s = true) := hide (plainB_yes s (fun i hi => HA.out i (by omega) hi))
        obtain ⟨ao, cap, rfl⟩ := own_shape hown
        by_cases h10 : 10 < D.length
        · have HP : Hid (partsOut s = ([], false)) := hide (by rw [partsOut, if_neg (fun h => by have := h.2.2; rw [← HF.out] at this; omega)])
          go_wp2
          go_ret2
          rw [HP.out]
          exact ⟨_, rfl, own_none wr w.heap.size hB, hb.alloc hB _⟩
        · have HP : Hid (partsOut s = (D, true)) := hide (by rw [partsOut, if_pos ⟨by omega, HPl.out, by rw [← HF.out]; omega⟩, ← HF.out])
          go_wp2
          go_ret2
          rw [HP.out]
          exact ⟨_, rfl, hown, hb⟩
end Go.Proofs.YtimhnphodnnbeakDoor
