/-
  Several texts in one. More of the laws' helpers over nodes by contracts: eqNode at two nodes of the same, markNode, heldNode. · The exact law of ReadNode by contracts. · spec.PlaceOf by a contract. · spec.GetKey, at every disk whose lists and texts are of at most 1048576: it tells getK of what the pages read. · spec.ReaderGet by a contract: the value of a key in the tree of a reader. · laws.FnExactReaderGet by contracts: it returns true at every store, given the program's contract (made by tools/storelaw.py). · A meta that came in as an argument of a law, opened: what its reading gives. · A disk that came in as an argument of a law, opened: what its reading gives. · A work that came in as an argument of a law, opened: what its reading gives. · Readers that came in as an argument of a law, opened: what their reading gives.
-/
import Derived.Test.YtbokjfjdjgopeaaGreatDoorNode
import Derived.Test.YtbokjfjdjgopeaaGreatDoorImplReadNode
import Derived.Test.YtbokjfjdjgopeaaGreatDoorSpecRead
import Derived.Test.YtbokjfjdjgopeaaGreatDoorNodeSpec
import Derived.Test.YtbokjfjdjgopeaaGreatDoorRgG
import Derived.Test.YtbokjfjdjgopeaaGreatDoorRgC
import Derived.Test.YtbokjfjdjgopeaaGreatDoorRgD
import Derived.Deep.Cut
import Derived.Test.YtbokjfjdjgopeaaGreatDoorRgE
import Derived.Lib.SmallJoins
import Derived.Deep.Strs
import Derived.Deep.SlicePairs
import Derived.ChangeOld
import Derived.Test.YtbokjfjdjgopeaaGreatDoorRgB
import Derived.Test.YtbokjfjdjgopeaaGreatDoorRgF
namespace Go.Proofs.YtbokjfjdjgopeaaGreatDoor
open Go.RowKit

end Go.Proofs.YtbokjfjdjgopeaaGreatDoor

namespace Go.Proofs.YtbokjfjdjgopeaaGreatDoor
open Go.RowKit

theorem readN_len {t : ByteArray} {n : Nd} {ok : Bool} (h : ReadN t n ok) : n.ks.length ≤ 4 ∧ n.vs.length ≤ 4 ∧ n.cs.length ≤ 4 := by
  rcases h with ⟨-, h, -⟩ | ⟨-, rfl, -⟩
  · obtain ⟨h1, h2, h3, h4⟩ := cnt_yes (node_yes h.1).1
    cases hl : n.lf with
    | true => have := h3 hl; omega
    | false => have := h4 hl; omega
  · simp [Nd.none]

theorem nodeOwn_cells {w : World} {B : Nat} {v : Value} {lf : Bool} {ks vs : List ByteArray} {cs : List Int} (h : NodeOwn w B v lf ks vs cs) : ∃ a1 c1 a2 c2 a3 c3, v = .agg #[.bool lf, .slice a1 ks.length c1, .slice a2 vs.length c2, .slice a3 cs.length c3] := by
  obtain ⟨v1, v2, v3, rfl, h1, h2, h3, -⟩ := h
  obtain ⟨a1, c1, rfl⟩ := own_slice h1
  obtain ⟨a2, c2, rfl⟩ := own_slice h2
  obtain ⟨a3, c3, rfl⟩ := own_slice h3
  exact ⟨a1, c1, a2, c2, a3, c3, rfl⟩

theorem var4 {w : World} {a : Nat} {b0 v1 v2 v3 : Value} (h : w.heap[a]? = some (.cells #[b0, v1, v2, v3] 94 (0, 0))) : w.cell? ⟨a, 0, none⟩ = some b0 ∧ w.cell? ⟨a, 1, none⟩ = some v1 ∧ w.cell? ⟨a, 2, none⟩ = some v2 ∧ w.cell? ⟨a, 3, none⟩ = some v3 :=
  ⟨(cell_at h 0).1, (cell_at h 1).1, (cell_at h 2).1, (cell_at h 3).1⟩

theorem stays {w w' : World} {a : Nat} {o : Obj} (h : w.heap[a]? = some o) (hb : Below w.heap.size w w') : w'.heap[a]? = some o := (hb.block _ (Array.getElem?_eq_some_iff.1 h).1).trans h

end Go.Proofs.YtbokjfjdjgopeaaGreatDoor

namespace Go.Proofs.YtbokjfjdjgopeaaGreatDoor
open Go.RowKit

set_option maxHeartbeats 1000000 in
set_option maxRecDepth 100000 in
theorem specPlaceOf_any (v : Value) (lf : Bool) (ks vs : List ByteArray) (cs : List Int) (hk : ks.length ≤ 1048576) (key : ByteArray) (w : World) (hd : NodeAt w v lf ks vs cs) :
    Calls Tryz.prog 33 #[v, .string key] w fun e w' => e = .returned (.int .i64 (placeK ks key ks.length)) ∧ Below w.heap.size w w' := by
  obtain ⟨vk, vv, vc, rfl, h1, -, -⟩ := hd
  obtain ⟨xk, ck, rfl⟩ : ∃ a cap, vk = .slice a ks.length cap := by obtain ⟨-, a, cap, e, -⟩ := h1; exact ⟨a, cap, e⟩
  obtain ⟨w0, hw0⟩ : ∃ w0, w0 = w.alloc (Obj.cells #[.bool lf, .slice xk ks.length ck, vv, vc] 94) := ⟨_, rfl⟩
  have hb0 : Below w.heap.size w w0 := by rw [hw0]; exact (Below.refl w.heap.size w).alloc (Nat.le_refl _) _
  have hblk : w0.heap[w.heap.size]? = some (Obj.cells #[.bool lf, .slice xk ks.length ck, vv, vc] 94) := by rw [hw0]; exact heap_alloc_new w _
  have HB0 := hide hb0
  have HR := hide (row_below h1 hb0)
  have HP : Hid (∀ wx, Below w0.heap.size w0 wx → wx.cell? ⟨w.heap.size, 1, none⟩ = some (.slice xk ks.length ck)) := hide (fun wx hb => by
    have hq := (hb.block _ (Array.getElem?_eq_some_iff.1 hblk).1).trans hblk
    exact (cell_at hq 1).1)
  clear h1 hb0 hblk
  go_enter Tryz.func33, Tryz.ntmps33
  go_wp2_with fail
  rw [← hw0]
  clear hw0
  go_loopg [5, 6] ks.length (fun q av iv wr => ∃ i : Nat, i ≤ ks.length ∧ av = .int .i64 (placeK ks key i) ∧ iv = .int .i64 (i : Int) ∧ q + i = ks.length ∧ Hid (Below w0.heap.size w0 wr))
  case atStart => exact ⟨0, Nat.zero_le _, rfl, rfl, rfl, hide (Below.refl _ _)⟩
  case round =>
    obtain ⟨i, hi, rfl, rfl, hg, HB⟩ := hrel
    have HG := hide hg
    clear hg
    have p1 := HP.out wr HB.out
    by_cases hlt : i < ks.length
    · obtain ⟨-, a1, cp1, e1, h0 | ⟨bk, ok, e0, hbk, hck⟩⟩ := HR.out
      · omega
      injection e1 with e11 _ e12
      subst e11 e12
      subst e0
      obtain ⟨x, hx⟩ : ∃ x, x = ks.getD i ⟨#[]⟩ := ⟨_, rfl⟩
      have hxc : wr.cell? ⟨bk, ok + i, none⟩ = some (.string x) := by rw [HB.out.cell (by exact hbk), hck i (by omega), strs_at ks i hlt, hx]; simp [List.getD, hlt]
      have hi0 : (0 : Int) ≤ (i : Int) := by omega
      have hi1 : (i : Int) < (ks.length : Int) := by omega
      obtain ⟨le, hle⟩ : ∃ le, (Op.bytesLess x.toList key.toList || x.toList == key.toList) = le := ⟨_, rfl⟩
      have hK : placeK ks key (i + 1) = if le = true then (i : Int) else placeK ks key i := by rw [placeK, ← hx, hle]
      obtain ⟨z, hz⟩ : ∃ z, z = placeK ks key i := ⟨_, rfl⟩
      rw [← hz] at hK ⊢
      clear hck hx hz
      cases le with
      | true =>
        rw [if_pos rfl] at hK
        have HK := hide hK
        clear hK
        go_wp2_with fail
        try (go_quiet (fail); go_wp2_with fail)
        go_roundg (gk - 1)
        case measure => have := HG.out; omega
        case rel => exact ⟨i + 1, by omega, by rw [HK.out], by go_num, by have := HG.out; omega, by first | exact HB | exact hide (bel_n HB.out)⟩
      | false =>
        rw [if_neg (by decide)] at hK
        have HK := hide hK
        clear hK
        go_wp2_with fail
        try (go_quiet (fail); go_wp2_with fail)
        go_roundg (gk - 1)
        case measure => have := HG.out; omega
        case rel => exact ⟨i + 1, by omega, by rw [HK.out], by go_num, by have := HG.out; omega, by first | exact HB | exact hide (bel_n HB.out)⟩
    · obtain rfl : i = ks.length := by omega
      go_wp2_with fail
      go_ret
      exact ⟨rfl, HB0.out.trans (HB.out.mono HB0.out.size)⟩
end Go.Proofs.YtbokjfjdjgopeaaGreatDoor

namespace Go.Proofs.YtbokjfjdjgopeaaGreatDoor
open Go.RowKit

theorem readD_smallG {ps : List ByteArray} {ls : List (Int × ByteArray)} {M : Nat} (hps : ∀ s ∈ ps, s.size ≤ M) (hls : ∀ p ∈ ls, p.2.size ≤ M) (page : Int) : (readD ps ls page).size ≤ M := by
  have hlate : ∀ k t, lateAt ls page k = some t → t.size ≤ M := fun k => by
    induction k with
    | zero => intro t h; simp [lateAt] at h
    | succ k ih =>
      intro t h
      rw [lateAt] at h
      split at h
      · next p hp =>
        split at h
        · injection h with h
          rw [← h]
          exact hls p (List.mem_of_getElem? hp)
        · exact ih t h
      · exact ih t h
  unfold readD
  split
  · split
    · next t h => exact hlate _ _ h
    · rw [List.getD_eq_getElem?_getD]
      cases h : ps[page.toNat]? with
      | none => exact Nat.zero_le _
      | some x => exact hps x (List.mem_of_getElem? h)
  · exact Nat.zero_le _

/-- from page p on, q levels (page 0: nothing) -/
noncomputable def getZ (D : Int → ByteArray) (key : ByteArray) (q : Nat) (p : Int) : Option ByteArray := if p = 0 then none else getL D key q p

theorem getL_no {D : Int → ByteArray} {key : ByteArray} {q : Nat} {p : Int} {n : Nd} {ok : Bool} (h : rdN (D p) = (n, ok)) (hb : ok = false ∨ placeK n.ks key n.ks.length < 0) : getL D key (q + 1) p = none := by
  rw [getL, h, if_pos hb]

theorem getL_leaf {D : Int → ByteArray} {key : ByteArray} {q : Nat} {p : Int} {n : Nd} {i : Nat} (h : rdN (D p) = (n, true)) (hl : n.lf = true) (hi : placeK n.ks key n.ks.length = (i : Int)) : getL D key (q + 1) p = if n.ks.getD i ⟨#[]⟩ = key then some (n.vs.getD i ⟨#[]⟩) else none := by
  rw [getL, h, if_neg (by rintro (h | h); cases h; rw [hi] at h; omega), if_pos hl]
  simp only [hi, Int.toNat_natCast]

theorem getL_kid {D : Int → ByteArray} {key : ByteArray} {q : Nat} {p : Int} {n : Nd} {i : Nat} (h : rdN (D p) = (n, true)) (hl : n.lf = false) (hi : placeK n.ks key n.ks.length = (i : Int)) : getL D key (q + 1) p = getL D key q (n.cs.getD i 0) := by
  rw [getL, h, if_neg (by rintro (h | h); cases h; rw [hi] at h; omega), if_neg (by rw [hl]; decide)]
  simp only [hi, Int.toNat_natCast]

/-- a kid of a right node is no page 0 -/
theorem kid_pos {n : Nd} (h : n.ok = true) {i : Nat} (hi : i < n.cs.length) : 2 ≤ n.cs.getD i 0 ∧ n.cs.getD i 0 ≤ 39 := by
  have := (node_yes h).2.2.2 i hi
  unfold kidB at this
  rw [Bool.and_eq_true, decide_eq_true_eq] at this
  exact this.1

theorem row_getS {w : World} {B n c : Nat} {a : Option Addr} {l : List ByteArray} (h : w.ownsRow B 9 1 (.slice a n c) n (strs l)) {i : Nat} (hi : i < l.length) (hn : n = l.length) : ∃ g, a = some ⟨g, 0, none⟩ ∧ w.cell? ⟨g, i, none⟩ = some (.string (l.getD i ⟨#[]⟩)) := by
  rcases h.2 with ⟨-, h0⟩ | ⟨g, c', cur, e, -⟩
  · omega
  · injection e with e1 _ e2
    subst e1 e2
    refine ⟨g, rfl, ?_⟩
    rw [h.cellAt i (by omega), strs_at l i hi]
    simp [List.getD, hi]

theorem row_getI {w : World} {B n c : Nat} {a : Option Addr} {l : List Int} (h : w.ownsRow B 3 1 (.slice a n c) n (ints l)) {i : Nat} (hi : i < l.length) (hn : n = l.length) : ∃ g, a = some ⟨g, 0, none⟩ ∧ w.cell? ⟨g, i, none⟩ = some (.int .i64 (l.getD i 0)) := by
  rcases h.2 with ⟨-, h0⟩ | ⟨g, c', cur, e, -⟩
  · omega
  · injection e with e1 _ e2
    subst e1 e2
    refine ⟨g, rfl, ?_⟩
    rw [h.cellAt i (by omega), ints, List.getElem?_map, List.getElem?_eq_getElem hi]
    simp [List.getD, hi]

/-- what one level tells -/
inductive Lvl (D : Int → ByteArray) (key : ByteArray) (n : Nd) (ok : Bool) (at_ : Int) (q : Nat) (p : Int) : Prop
  | no (h : (!ok || decide (at_ < 0)) = true) (e : getL D key (q + 1) p = none)
  | leaf (i : Nat) (h1 : ok = true) (h2 : n.lf = true) (h3 : at_ = (i : Int)) (h4 : i < n.ks.length) (h5 : i < n.vs.length) (e : getL D key (q + 1) p = if n.ks.getD i ⟨#[]⟩ = key then some (n.vs.getD i ⟨#[]⟩) else none)
  | kid (i : Nat) (h1 : ok = true) (h2 : n.lf = false) (h3 : at_ = (i : Int)) (h4 : i < n.cs.length) (h5 : n.cs.getD i 0 ≠ 0) (e : getL D key (q + 1) p = getL D key q (n.cs.getD i 0))

theorem lvl_of {D : Int → ByteArray} {key : ByteArray} {n : Nd} {ok : Bool} {p : Int} (h : ReadN (D p) n ok) (q : Nat) : Lvl D key n ok (placeK n.ks key n.ks.length) q p := by
  have hr := rdN_of h
  obtain ⟨hp1, hp2⟩ := placeK_range n.ks key n.ks.length
  cases ok with
  | false => exact .no rfl (getL_no hr (Or.inl rfl))
  | true =>
    have hok := rdN_ok hr
    obtain ⟨e1, e2⟩ := even_ok hok
    by_cases hneg : placeK n.ks key n.ks.length < 0
    · exact .no (by simp [hneg]) (getL_no hr (Or.inr hneg))
    · obtain ⟨i, hi⟩ : ∃ i : Nat, placeK n.ks key n.ks.length = (i : Int) := ⟨(placeK n.ks key n.ks.length).toNat, by omega⟩
      cases hl : n.lf with
      | true => exact .leaf i rfl hl hi (by omega) (by rw [(e1 hl).1]; omega) (getL_leaf hr hl hi)
      | false =>
        have hc : i < n.cs.length := by rw [(e2 hl).1]; omega
        exact .kid i rfl hl hi hc (by have := kid_pos hok hc; omega) (getL_kid hr hl hi)

set_option maxHeartbeats 4000000 in
set_option maxRecDepth 100000 in
theorem specGetKey_any (v : Value) (ps : List ByteArray) (ls : List (Int × ByteArray)) (hp : ps.length ≤ 1048576) (hl : ls.length ≤ 1048576) (hps : ∀ s ∈ ps, s.size ≤ 1048576) (hls : ∀ p ∈ ls, p.2.size ≤ 1048576) (root : Int) (key : ByteArray) (w : World) (hd : DiskAt w v ps ls) :
    Calls Tryz.prog 14 #[v, .int .i64 root, .string key] w fun e w' => e = .returned (getO (getK (readD ps ls) root key)) ∧ Below w.heap.size w w' := by
  have HRP := hide (fun p wx h => specReadPage_any v ps ls hp hl p wx h)
  have HRN := hide (fun p wx => specReadNode_any (readD ps ls p) (readD_smallG hps hls p) wx)
  have HD := hide hd
  obtain ⟨D, hD⟩ : ∃ D, D = readD ps ls := ⟨_, rfl⟩
  rw [← hD] at HRP HRN ⊢
  obtain ⟨vp, vl, rfl, -, -⟩ := hd
  obtain ⟨w0, hw0⟩ : ∃ w0, w0 = w.alloc (.cells #[vp, vl] 42 (0, 0)) := ⟨_, rfl⟩
  have HB0 : Hid (Below w.heap.size w w0) := hide (by rw [hw0]; exact (Below.refl w.heap.size w).alloc (Nat.le_refl _) _)
  have HV0 : Hid (w0.heap[w.heap.size]? = some (.cells #[vp, vl] 42 (0, 0))) := hide (by rw [hw0]; exact heap_alloc_new w _)
  obtain ⟨r, hr⟩ : ∃ r, r = getK D root key := ⟨_, rfl⟩
  rw [← hr]
  have HR : Hid (r = getZ D key 8 root) := hide hr
  clear hr hp hl hps hls hD
  go_enter Tryz.func14, Tryz.ntmps14
  go_wp2_with fail
  rw [← hw0]
  clear hw0
  go_loopg [8, 1] 8 (fun q dv rv wr => ∃ (k : Nat) (p : Int), q + k = 8 ∧ dv = .int .i64 (k : Int) ∧ rv = .int .i64 p ∧ Hid (r = getZ D key q p) ∧ Hid (Below w.heap.size w wr) ∧ Hid (wr.heap[w.heap.size]? = some (.cells #[vp, vl] 42 (0, 0))))
  case atStart => exact ⟨0, root, rfl, rfl, rfl, HR, HB0, HV0⟩
  case round =>
    obtain ⟨k, p, hq, rfl, rfl, HG, HB, HV⟩ := hrel
    have p0 := (cell_at HV.out 0).1
    have p1 := (cell_at HV.out 1).1
    cases gk with
    | zero =>
      have hk : k = 8 := by omega
      subst hk
      have HO : Hid (r = none) := hide (by rw [HG.out, getZ]; split <;> rfl)
      go_wp2_with fail
      go_ret2
      rw [HO.out]
      exact ⟨rfl, HB.out⟩
    | succ q =>
      have hk : (k : Int) < 8 := by omega
      by_cases hz : p = 0
      · have HO : Hid (r = none) := hide (by rw [HG.out, getZ, if_pos hz])
        subst hz
        go_wp2_with fail
        go_ret2
        rw [HO.out]
        exact ⟨rfl, HB.out⟩
      · rw [getZ, if_neg hz] at HG
        go_wp2_with fail
        refine (HRP.out p _ (disk_below HD.out HB.out)).mono ?_
        rintro e w1 ⟨rfl, hb1⟩
        have HB1 : Hid (Below w.heap.size w w1) := hide (HB.out.trans (hb1.mono HB.out.size))
        have HV1 := hide (stays HV.out hb1)
        clear hb1 p0 p1
        go_wp2_with fail
        refine (HRN.out p _).mono ?_
        rintro e w2 ⟨n, v2, ok, rfl, hrn, hno, hb2⟩
        have HB2 : Hid (Below w.heap.size w w2) := hide (HB1.out.trans (hb2.mono HB1.out.size))
        have HV2 := hide (stays HV1.out hb2)
        have HL := hide (lvl_of (key := key) hrn q)
        have HN := hide hno
        obtain ⟨a1, c1, a2, c2, a3, c3, rfl⟩ := nodeOwn_cells hno
        have HPl := hide (fun wx h => specPlaceOf_any (.agg #[.bool n.lf, .slice a1 n.ks.length c1, .slice a2 n.vs.length c2, .slice a3 n.cs.length c3]) n.lf n.ks n.vs n.cs (by have := (readN_len hrn).1; omega) key wx h)
        obtain ⟨at_, hat⟩ : ∃ at_, at_ = placeK n.ks key n.ks.length := ⟨_, rfl⟩
        rw [← hat] at HL HPl
        obtain ⟨lf, hlf⟩ : ∃ lf, lf = n.lf := ⟨_, rfl⟩
        have HLf := hide hlf
        rw [← hlf] at HPl HN ⊢
        obtain ⟨lk, hlk⟩ : ∃ lk, lk = n.ks.length := ⟨_, rfl⟩
        obtain ⟨lv, hlv⟩ : ∃ lv, lv = n.vs.length := ⟨_, rfl⟩
        obtain ⟨lc, hlc⟩ : ∃ lc, lc = n.cs.length := ⟨_, rfl⟩
        rw [← hlk, ← hlv, ← hlc] at HPl HN ⊢
        have HLn := hide (⟨hlk, hlv, hlc⟩ : _ ∧ _ ∧ _)
        obtain ⟨wa, hwa⟩ : ∃ wa, wa = w2.alloc (.cells #[.bool lf, .slice a1 lk c1, .slice a2 lv c2, .slice a3 lc c3] 94 (0, 0)) := ⟨_, rfl⟩
        have hba : Below w2.heap.size w2 wa := by rw [hwa]; exact (Below.refl _ _).alloc (Nat.le_refl _) _
        obtain ⟨g, hg⟩ : ∃ g, g = w2.heap.size := ⟨_, rfl⟩
        have HNa : Hid (wa.heap[g]? = some (.cells #[.bool lf, .slice a1 lk c1, .slice a2 lv c2, .slice a3 lc c3] 94 (0, 0))) := hide (by rw [hwa, hg]; exact heap_alloc_new w2 _)
        have HBa : Hid (Below w.heap.size w wa) := hide (HB2.out.trans (hba.mono HB2.out.size))
        have HVa := hide (stays HV2.out hba)
        have HOa := hide (nodeOwn_below HN.out hba)
        clear hrn hb2 hat hlf hba hlk hlv hlc hno
        go_wp2_with fail
        rw [← hwa, ← hg]
        clear hwa hg
        refine (HPl.out _ (node_of_own HOa.out)).mono ?_
        rintro e w3 ⟨rfl, hb3⟩
        have HB3 : Hid (Below w.heap.size w w3) := hide (HBa.out.trans (hb3.mono HBa.out.size))
        have HV3 := hide (stays HVa.out hb3)
        have HN3 := stays HNa.out hb3
        have n0 := (cell_at HN3 0).1
        have n1 := (cell_at HN3 1).1
        have n2 := (cell_at HN3 2).1
        have n3 := (cell_at HN3 3).1
        have HO3 := hide (nodeOwn_below HOa.out hb3)
        clear hb3 HN3
        rcases HL.out with ⟨h, e⟩ | ⟨i, h1, h2, h3, h4, h5, e⟩ | ⟨i, h1, h2, h3, h4, h5, e⟩
        · have HO : Hid (r = none) := hide (by rw [HG.out, e])
          clear e
          cases ok with
          | false =>
            go_wp2_with fail
            go_ret2
            rw [HO.out]
            exact ⟨rfl, HB3.out⟩
          | true =>
            have hneg : at_ < 0 := by simpa using h
            go_wp2_with fail
            go_ret2
            rw [HO.out]
            exact ⟨rfl, HB3.out⟩
        · have hl : lf = true := HLf.out.trans h2
          subst hl
          subst h1
          subst h3
          obtain ⟨vk', vv', vc', eq, o1, o2, -, -⟩ := HO3.out
          obtain ⟨-, rfl, rfl, rfl⟩ := agg4 eq
          obtain ⟨hlk, hlv, hlc⟩ := HLn.out
          rw [← hlk] at o1 h4
          rw [← hlv] at o2 h5
          obtain ⟨gk', rfl, hck⟩ := row_getS (i := i) o1 (by omega) hlk
          obtain ⟨gv, rfl, hcv⟩ := row_getS (i := i) o2 (by omega) hlv
          obtain ⟨x, hx⟩ : ∃ x, x = n.ks.getD i ⟨#[]⟩ := ⟨_, rfl⟩
          obtain ⟨y, hy⟩ : ∃ y, y = n.vs.getD i ⟨#[]⟩ := ⟨_, rfl⟩
          rw [← hx] at hck
          rw [← hy] at hcv
          have HG2 : Hid (r = if x = key then some y else none) := hide (by rw [HG.out, e, hx, hy])
          have hbq := ba_beq x key
          have hi0 : (0 : Int) ≤ (i : Int) := by omega
          have hi1 : (i : Int) < (lk : Int) := by omega
          have hi2 : (i : Int) < (lv : Int) := by omega
          have hi3 : ¬ ((i : Int) < 0) := by omega
          clear e hx hy o1 o2 eq h2 h4 h5 hlk hlv hlc
          by_cases hxk : x = key
          · rw [if_pos hxk] at HG2
            rw [decide_eq_true hxk] at hbq
            go_wp2_with fail
            go_ret2
            rw [HG2.out]
            exact ⟨rfl, HB3.out⟩
          · rw [if_neg hxk] at HG2
            rw [decide_eq_false hxk] at hbq
            go_wp2_with fail
            go_ret2
            rw [HG2.out]
            exact ⟨rfl, HB3.out⟩
        · have hl : lf = false := HLf.out.trans h2
          subst hl
          subst h1
          subst h3
          obtain ⟨vk', vv', vc', eq, -, -, o3, -⟩ := HO3.out
          obtain ⟨-, rfl, rfl, rfl⟩ := agg4 eq
          obtain ⟨hlk, hlv, hlc⟩ := HLn.out
          rw [← hlc] at o3 h4
          obtain ⟨gc, rfl, hcc⟩ := row_getI (i := i) o3 (by omega) hlc
          obtain ⟨c, hc⟩ : ∃ c, c = n.cs.getD i 0 := ⟨_, rfl⟩
          rw [← hc] at hcc e h5
          have HG2 : Hid (r = getZ D key q c) := hide (by rw [HG.out, e, getZ, if_neg h5])
          have hi0 : (0 : Int) ≤ (i : Int) := by omega
          have hi1 : (i : Int) < (lc : Int) := by omega
          have hi3 : ¬ ((i : Int) < 0) := by omega
          clear e hc o3 eq h2 h4 h5 hlk hlv hlc
          go_wp2_with fail
          go_roundg q
          case measure => omega
          case rel => exact ⟨k + 1, c, by omega, by go_num, rfl, HG2, HB3, HV3⟩
end Go.Proofs.YtbokjfjdjgopeaaGreatDoor

namespace Go.Proofs.YtbokjfjdjgopeaaGreatDoor
open Go.RowKit

/-- the reader with this number -/
def rdAt (s : St) (id : Int) : Option (Int × Mt) := if atR s.rs id 0 < 0 then none else s.rs[(atR s.rs id 0).toNat]?

/-- what a reader gets -/
noncomputable def rget (s : St) (id : Int) (key : ByteArray) : ByteArray × Int :=
  match rdAt s id with
  | none => (⟨#[]⟩, 2)
  | some r => match getK (readD s.ps s.ls) r.2.root key with
    | none => (⟨#[]⟩, 2)
    | some v => (v, 0)

theorem rget_no {s : St} {id : Int} {key : ByteArray} (h : atR s.rs id 0 = -1) : rget s id key = (⟨#[]⟩, 2) := by
  unfold rget rdAt
  rw [h, if_pos (by omega)]

theorem rget_yes {s : St} {id : Int} {key : ByteArray} {k : Nat} {m : Mt} (h : s.rs[k]? = some (id, m)) (hk : atR s.rs id 0 = (k : Int)) : rget s id key = match getK (readD s.ps s.ls) m.root key with
    | none => (⟨#[]⟩, 2)
    | some v => (v, 0) := by
  unfold rget rdAt
  rw [hk, if_neg (by omega), Int.toNat_natCast, h]

theorem Tryz.sizeStoreG : (Tryz.prog.info? 52).map (·.size) = some 20 := by kernel_rfl

theorem Tryz.sizeDiskG : (Tryz.prog.info? 42).map (·.size) = some 2 := by kernel_rfl

theorem cell_same {w w' : World} {b i : Nat} (h : w'.heap[b]? = w.heap[b]?) : w'.cell? ⟨b, i, none⟩ = w.cell? ⟨b, i, none⟩ := by
  unfold World.cell?
  simp only [h]

set_option maxHeartbeats 8000000 in
set_option maxRecDepth 100000 in
theorem specReaderGet_any (v : Value) (s : St) (hs : s.small) (id : Int) (key : ByteArray) (w : World) (hd : StAt w v s) :
    Calls Tryz.prog 5 #[v, .int .i64 id, .string key] w fun e w' => e = .returned (.tuple #[.string (rget s id key).1, .int .i64 (rget s id key).2]) ∧ Below w.heap.size w w' := by
  have HAt := hide (fun u wx h => l12At_any u s hs.2.2.1.1 id wx h)
  have HGk := hide (fun root u wx h => specGetKey_any u s.ps s.ls hs.1.1 hs.1.2.2.1 hs.1.2.1 hs.1.2.2.2 root key wx h)
  have HSt := hide hd
  have hl := hs.2.2.1.1
  clear hs
  obtain ⟨vp, vl, vf, vR, vr, up, ul, uu, ug, uf, rfl, h1, -, h3, -⟩ := hd
  obtain ⟨a, cap, rfl⟩ := rds_slice h3
  have HD := hide h1
  have HR := hide h3
  clear h1 h3
  obtain ⟨L, hL⟩ : ∃ n, n = s.rs.length := ⟨_, rfl⟩
  rw [← hL] at HR HSt hl ⊢
  have HL := hide hL
  obtain ⟨w0, hw0⟩ : ∃ w0, w0 = w.alloc (Obj.cells #[vp, vl, .int .i64 s.m.tx, .int .i64 s.m.root, .int .i64 s.m.next, vf, .slice a L cap, .int .i64 s.tm.tx, .int .i64 s.tm.root, .int .i64 s.tm.next, vr, up, ul, .int .i64 s.tk.next, uu, ug, uf, .int .i64 s.tr, .bool s.wr, .bool s.fl] 52) := ⟨_, rfl⟩
  obtain ⟨a0, ha0⟩ : ∃ x, x = w.heap.size := ⟨_, rfl⟩
  have hV := heap_alloc_new w (Obj.cells #[vp, vl, .int .i64 s.m.tx, .int .i64 s.m.root, .int .i64 s.m.next, vf, .slice a L cap, .int .i64 s.tm.tx, .int .i64 s.tm.root, .int .i64 s.tm.next, vr, up, ul, .int .i64 s.tk.next, uu, ug, uf, .int .i64 s.tr, .bool s.wr, .bool s.fl] 52)
  rw [← hw0, ← ha0] at hV
  have HV := hide hV
  have HB0 : Hid (Below w.heap.size w w0) := hide (by rw [hw0]; exact (Below.refl w.heap.size w).alloc (Nat.le_refl _) _)
  have HZ0 : Hid (a0 < w0.heap.size) := hide (by rw [hw0, ha0]; simp)
  have HRg : Hid (w0.rangeAt a0 0 (#[vp, vl, .int .i64 s.m.tx, .int .i64 s.m.root, .int .i64 s.m.next, vf, .slice a L cap, .int .i64 s.tm.tx, .int .i64 s.tm.root, .int .i64 s.tm.next, vr, up, ul, .int .i64 s.tk.next, uu, ug, uf, .int .i64 s.tr, .bool s.wr, .bool s.fl] : Array Value).toList) := hide (range_all hV)
  have HA := hide ha0
  clear hL hV ha0
  rcases atR_cases s.rs id 0 with hno | ⟨k, m, hm, hk⟩
  · rw [rget_no hno]
    rw [hno] at HAt
    clear hno
    go_enter Tryz.func5, Tryz.ntmps5
    go_upto_region 1 with fail
    rw [← hw0, ← HA.out]
    clear hw0
    go_wp2_with ((with_reducible refine wpList_loadL ?_ 52 (.tmp 3) ?_ a0 0 ?_ #[vp, vl, .int .i64 s.m.tx, .int .i64 s.m.root, .int .i64 s.m.next, vf, .slice a L cap, .int .i64 s.tm.tx, .int .i64 s.tm.root, .int .i64 s.tm.next, vr, up, ul, .int .i64 s.tk.next, uu, ug, uf, .int .i64 s.tr, .bool s.wr, .bool s.fl] HRg.out _ Tryz.underlying52 ?_ ?_ ?_); exact rfl; exact rfl; exact rfl; exact rfl; exact Tryz.sizeStoreG)
    refine (HAt.out _ _ (st_below HSt.out HB0.out)).mono ?_
    rintro e w1 ⟨rfl, hb⟩
    have HB1 : Hid (Below w.heap.size w w1) := hide (HB0.out.trans (hb.mono HB0.out.size))
    clear hb
    go_wp2_with fail
    go_ret2
    exact ⟨rfl, HB1.out⟩
  · rw [Nat.zero_add] at hk
    rw [hk] at HAt
    rw [rget_yes hm hk]
    have hkL : k < L := by rw [HL.out]; exact (List.getElem?_eq_some_iff.1 hm).1
    obtain ⟨b, off, u, rfl, hbl, ⟨c0, c1, c2, c3, c4⟩, hfr⟩ := rds_get HR.out hm
    obtain ⟨mr, hmr⟩ : ∃ n, n = m.root := ⟨_, rfl⟩
    rw [← hmr] at c2 ⊢
    have HG := hide (fun wx h => HGk.out mr (.agg #[vp, vl]) wx h)
    have HSw : Hid (∀ wx, Below w.heap.size w wx → wx.heap[a0]? = some (Obj.cells #[vp, vl, .int .i64 s.m.tx, .int .i64 s.m.root, .int .i64 s.m.next, vf, .slice (some ⟨b, off, none⟩) L cap, .int .i64 s.tm.tx, .int .i64 s.tm.root, .int .i64 s.tm.next, vr, up, ul, .int .i64 s.tk.next, uu, ug, uf, .int .i64 s.tr, .bool s.wr, .bool s.fl] 52) → (fun wx => wx.heap[a0]? = some (Obj.cells #[vp, vl, .int .i64 s.m.tx, .int .i64 s.m.root, .int .i64 s.m.next, vf, .slice (some ⟨b, off, none⟩) L cap, .int .i64 s.tm.tx, .int .i64 s.tm.root, .int .i64 s.tm.next, vr, up, ul, .int .i64 s.tk.next, uu, ug, uf, .int .i64 s.tr, .bool s.wr, .bool s.fl] 52) ∧ wx.cell? ⟨b, off + k * 5 + 2, none⟩ = some (.int .i64 mr)) wx) := hide (fun wx hb h => ⟨h, by rw [cell_same (hb.block b hbl)]; exact c2⟩)
    have hk0 : (0 : Int) ≤ (k : Int) := by omega
    have hk1 : (k : Int) < (L : Int) := by omega
    have dk : decide ((k : Int) < 0) = false := decide_eq_false (by omega)
    clear hm hk hmr c0 c1 c2 c3 c4 hfr HGk
    obtain ⟨gk, hgk⟩ : ∃ x, x = getK (readD s.ps s.ls) mr key := ⟨_, rfl⟩
    rw [← hgk] at HG ⊢
    clear hgk
    cases gk with
    | none =>
      simp only [getO] at HG
      go_enter Tryz.func5, Tryz.ntmps5
      go_upto_region 1 with fail
      rw [← hw0, ← HA.out]
      clear hw0
      go_upto_region 4 with (first | ((with_reducible refine wpList_loadL ?_ 52 (.tmp 3) ?_ a0 0 ?_ #[vp, vl, .int .i64 s.m.tx, .int .i64 s.m.root, .int .i64 s.m.next, vf, .slice (some ⟨b, off, none⟩) L cap, .int .i64 s.tm.tx, .int .i64 s.tm.root, .int .i64 s.tm.next, vr, up, ul, .int .i64 s.tk.next, uu, ug, uf, .int .i64 s.tr, .bool s.wr, .bool s.fl] HRg.out _ Tryz.underlying52 ?_ ?_ ?_); exact rfl; exact rfl; exact rfl; exact rfl; exact Tryz.sizeStoreG) | fail)
      refine (HAt.out _ _ (st_below HSt.out HB0.out)).mono ?_
      rintro e w1 ⟨rfl, hb⟩
      have HB1 : Hid (Below w.heap.size w w1) := hide (HB0.out.trans (hb.mono HB0.out.size))
      have HV1 : Hid (w1.heap[a0]? = some (Obj.cells #[vp, vl, .int .i64 s.m.tx, .int .i64 s.m.root, .int .i64 s.m.next, vf, .slice (some ⟨b, off, none⟩) L cap, .int .i64 s.tm.tx, .int .i64 s.tm.root, .int .i64 s.tm.next, vr, up, ul, .int .i64 s.tk.next, uu, ug, uf, .int .i64 s.tr, .bool s.wr, .bool s.fl] 52)) := hide ((hb.block a0 HZ0.out).trans HV.out)
      have HZ1 : Hid (a0 < w1.heap.size) := hide (Nat.lt_of_lt_of_le HZ0.out hb.size)
      clear hb
      go_upto_region 4 with fail
      obtain ⟨wd, hwd⟩ : ∃ wd, wd = w1.drew := ⟨_, rfl⟩
      have HBd : Hid (Below w.heap.size w wd) := hide (by rw [hwd]; exact HB1.out.drew)
      have HZd : Hid (a0 < wd.heap.size) := hide (by rw [hwd]; exact HZ1.out)
      have hHeld := HSw.out wd HBd.out (by rw [hwd]; exact HV1.out)
      refine wp_region_held_drew (S := fun wx => wx.heap[a0]? = some (Obj.cells #[vp, vl, .int .i64 s.m.tx, .int .i64 s.m.root, .int .i64 s.m.next, vf, .slice (some ⟨b, off, none⟩) L cap, .int .i64 s.tm.tx, .int .i64 s.tm.root, .int .i64 s.tm.next, vr, up, ul, .int .i64 s.tk.next, uu, ug, uf, .int .i64 s.tr, .bool s.wr, .bool s.fl] 52) ∧ wx.cell? ⟨b, off + k * 5 + 2, none⟩ = some (.int .i64 mr)) (by kernel_rfl) (by rw [← hwd]; exact hHeld) (fun _ => ?_)
      rw [← hwd]
      clear hwd
      refine takeW 0 17 ?_ rfl rfl (by kernel_rfl) (by kernel_rfl) (by kernel_rfl) (fun _ _ _ h => h) (Or.inl ⟨by rfl, ?_⟩) hHeld ?_
      rotate_left
      · (intro wx hSw; (try dsimp only at hSw); go_simp; try with_reducible rfl)
      simp only [List.setIfInBounds_toArray, List.set_cons_zero, List.set_cons_succ]
      refine takeW 1 18 (.agg #[vp, vl]) rfl rfl (by kernel_rfl) (by kernel_rfl) (by kernel_rfl) (fun _ _ _ h => h) (yields_loadL (by rfl) 42 (.tmp 17) rfl a0 0 rfl #[vp, vl] _ (fun _ h => range_of h.1 0 2) Tryz.underlying42 rfl Tryz.sizeDiskG) hHeld ?_
      simp only [List.setIfInBounds_toArray, List.set_cons_zero, List.set_cons_succ]
      refine takeW 2 19 ?_ rfl rfl (by kernel_rfl) (by kernel_rfl) (by kernel_rfl) (fun _ _ _ h => h) (Or.inl ⟨by rfl, ?_⟩) hHeld ?_
      rotate_left
      · (intro wx hSw; (try dsimp only at hSw); go_simp; try with_reducible rfl)
      simp only [List.setIfInBounds_toArray, List.set_cons_zero, List.set_cons_succ]
      refine takeW 3 20 ?_ rfl rfl (by kernel_rfl) (by kernel_rfl) (by kernel_rfl) (fun _ _ _ h => h) (Or.inl ⟨by rfl, ?_⟩) hHeld ?_
      rotate_left
      · (intro wx hSw; (try dsimp only at hSw); have hx6 : wx.cell? ⟨a0, 6, none⟩ = some (.slice (some ⟨b, off, none⟩) L cap) := (cell_at hSw.1 6).1; go_simp; try with_reducible rfl)
      simp only [List.setIfInBounds_toArray, List.set_cons_zero, List.set_cons_succ]
      refine takeW 4 21 ?_ rfl rfl (by kernel_rfl) (by kernel_rfl) (by kernel_rfl) (fun _ _ _ h => h) (Or.inl ⟨by rfl, ?_⟩) hHeld ?_
      rotate_left
      · (intro wx hSw; (try dsimp only at hSw); go_simp; try with_reducible rfl)
      simp only [List.setIfInBounds_toArray, List.set_cons_zero, List.set_cons_succ]
      refine takeW 5 22 ?_ rfl rfl (by kernel_rfl) (by kernel_rfl) (by kernel_rfl) (fun _ _ _ h => h) (Or.inl ⟨by rfl, ?_⟩) hHeld ?_
      rotate_left
      · (intro wx hSw; (try dsimp only at hSw); go_simp; try with_reducible rfl)
      simp only [List.setIfInBounds_toArray, List.set_cons_zero, List.set_cons_succ]
      refine takeW 6 23 ?_ rfl rfl (by kernel_rfl) (by kernel_rfl) (by kernel_rfl) (fun _ _ _ h => h) (Or.inl ⟨by rfl, ?_⟩) hHeld ?_
      rotate_left
      · (intro wx hSw; (try dsimp only at hSw); go_simp; try with_reducible rfl)
      simp only [List.setIfInBounds_toArray, List.set_cons_zero, List.set_cons_succ]
      refine takeW 7 24 ?_ rfl rfl (by kernel_rfl) (by kernel_rfl) (by kernel_rfl) (fun _ _ _ h => h) (Or.inl ⟨by rfl, ?_⟩) hHeld ?_
      rotate_left
      · (intro wx hSw; (try dsimp only at hSw); go_simp; try with_reducible rfl)
      simp only [List.setIfInBounds_toArray, List.set_cons_zero, List.set_cons_succ]
      refine takeW 8 25 ?_ rfl rfl (by kernel_rfl) (by kernel_rfl) (by kernel_rfl) (fun _ _ _ h => h) (Or.inl ⟨by rfl, ?_⟩) hHeld ?_
      rotate_left
      · (intro wx hSw; (try dsimp only at hSw); have hx7 := hSw.2; go_simp; try with_reducible rfl)
      simp only [List.setIfInBounds_toArray, List.set_cons_zero, List.set_cons_succ]
      refine takeW 9 26 ?_ rfl rfl (by kernel_rfl) (by kernel_rfl) (by kernel_rfl) (fun _ _ _ h => h) (Or.inl ⟨by rfl, ?_⟩) hHeld ?_
      rotate_left
      · (intro wx hSw; (try dsimp only at hSw); go_simp; try with_reducible rfl)
      simp only [List.setIfInBounds_toArray, List.set_cons_zero, List.set_cons_succ]
      refine wpAnyH_ready (rs := [10]) (by kernel_rfl) (by simp) ?_
      refine AllReadyH.cons rfl (fun K hK => ?_) AllReadyH.nil
      refine step_call3 wd ?_ 14 Tryz.f14 Tryz.func14 ?_ ?_ (.tmp 18) (.tmp 25) (.tmp 26) #[42, 3, 9] ?_ (.agg #[vp, vl]) (.int .i64 mr) (.string key) ?_ ?_ ?_ _ (HG.out _ (disk_below HD.out HBd.out)) ?_
      · exact rfl
      · decide
      · exact Option.some_ne_none _
      · exact rfl
      · exact rfl
      · exact rfl
      · exact rfl
      rintro e w2 ⟨rfl, hb⟩
      refine ⟨_, rfl, ?_⟩
      have HB2 : Hid (Below w.heap.size w w2) := hide (HBd.out.trans (hb.mono HBd.out.size))
      have hS2 := HSw.out w2 HB2.out (hb.block a0 (by have := HZd.out; omega) |>.trans hHeld.1)
      refine hK.out (Act.put _ (some 27) _) _ hS2 (fun _ => ?_)
      clear hK K hb
      simp only [Act.put, List.setIfInBounds_toArray, List.set_cons_zero, List.set_cons_succ]
      refine takeW 11 16 ?_ rfl rfl (by kernel_rfl) (by kernel_rfl) (by kernel_rfl) (fun _ _ _ h => h) (Or.inl ⟨by rfl, ?_⟩) hS2 ?_
      rotate_left
      · (intro wx hSw; (try dsimp only at hSw); go_simp; try with_reducible rfl)
      simp only [List.setIfInBounds_toArray, List.set_cons_zero, List.set_cons_succ]
      refine takeW 12 28 ?_ rfl rfl (by kernel_rfl) (by kernel_rfl) (by kernel_rfl) (fun _ _ _ h => h) (Or.inl ⟨by rfl, ?_⟩) hS2 ?_
      rotate_left
      · (intro wx hSw; (try dsimp only at hSw); go_simp; try with_reducible rfl)
      simp only [List.setIfInBounds_toArray, List.set_cons_zero, List.set_cons_succ]
      refine takeW 13 29 ?_ rfl rfl (by kernel_rfl) (by kernel_rfl) (by kernel_rfl) (fun _ _ _ h => h) (Or.inl ⟨by rfl, ?_⟩) hS2 ?_
      rotate_left
      · (intro wx hSw; (try dsimp only at hSw); go_simp; try with_reducible rfl)
      simp only [List.setIfInBounds_toArray, List.set_cons_zero, List.set_cons_succ]
      refine takeW 14 9 ?_ rfl rfl (by kernel_rfl) (by kernel_rfl) (by kernel_rfl) (fun _ _ _ h => h) (Or.inl ⟨by rfl, ?_⟩) hS2 ?_
      rotate_left
      · (intro wx hSw; (try dsimp only at hSw); go_simp; try with_reducible rfl)
      simp only [List.setIfInBounds_toArray, List.set_cons_zero, List.set_cons_succ]
      refine takeW 15 10 ?_ rfl rfl (by kernel_rfl) (by kernel_rfl) (by kernel_rfl) (fun _ _ _ h => h) (Or.inl ⟨by rfl, ?_⟩) hS2 ?_
      rotate_left
      · (intro wx hSw; (try dsimp only at hSw); go_simp; try with_reducible rfl)
      simp only [List.setIfInBounds_toArray, List.set_cons_zero, List.set_cons_succ]
      refine wpAnyH_done (by kernel_rfl) ?_ _
      clear hS2 hHeld HSw
      go_wp2_with fail
      go_ret2
      exact ⟨rfl, HB2.out⟩
    | some vv =>
      simp only [getO] at HG
      go_enter Tryz.func5, Tryz.ntmps5
      go_upto_region 1 with fail
      rw [← hw0, ← HA.out]
      clear hw0
      go_upto_region 4 with (first | ((with_reducible refine wpList_loadL ?_ 52 (.tmp 3) ?_ a0 0 ?_ #[vp, vl, .int .i64 s.m.tx, .int .i64 s.m.root, .int .i64 s.m.next, vf, .slice (some ⟨b, off, none⟩) L cap, .int .i64 s.tm.tx, .int .i64 s.tm.root, .int .i64 s.tm.next, vr, up, ul, .int .i64 s.tk.next, uu, ug, uf, .int .i64 s.tr, .bool s.wr, .bool s.fl] HRg.out _ Tryz.underlying52 ?_ ?_ ?_); exact rfl; exact rfl; exact rfl; exact rfl; exact Tryz.sizeStoreG) | fail)
      refine (HAt.out _ _ (st_below HSt.out HB0.out)).mono ?_
      rintro e w1 ⟨rfl, hb⟩
      have HB1 : Hid (Below w.heap.size w w1) := hide (HB0.out.trans (hb.mono HB0.out.size))
      have HV1 : Hid (w1.heap[a0]? = some (Obj.cells #[vp, vl, .int .i64 s.m.tx, .int .i64 s.m.root, .int .i64 s.m.next, vf, .slice (some ⟨b, off, none⟩) L cap, .int .i64 s.tm.tx, .int .i64 s.tm.root, .int .i64 s.tm.next, vr, up, ul, .int .i64 s.tk.next, uu, ug, uf, .int .i64 s.tr, .bool s.wr, .bool s.fl] 52)) := hide ((hb.block a0 HZ0.out).trans HV.out)
      have HZ1 : Hid (a0 < w1.heap.size) := hide (Nat.lt_of_lt_of_le HZ0.out hb.size)
      clear hb
      go_upto_region 4 with fail
      obtain ⟨wd, hwd⟩ : ∃ wd, wd = w1.drew := ⟨_, rfl⟩
      have HBd : Hid (Below w.heap.size w wd) := hide (by rw [hwd]; exact HB1.out.drew)
      have HZd : Hid (a0 < wd.heap.size) := hide (by rw [hwd]; exact HZ1.out)
      have hHeld := HSw.out wd HBd.out (by rw [hwd]; exact HV1.out)
      refine wp_region_held_drew (S := fun wx => wx.heap[a0]? = some (Obj.cells #[vp, vl, .int .i64 s.m.tx, .int .i64 s.m.root, .int .i64 s.m.next, vf, .slice (some ⟨b, off, none⟩) L cap, .int .i64 s.tm.tx, .int .i64 s.tm.root, .int .i64 s.tm.next, vr, up, ul, .int .i64 s.tk.next, uu, ug, uf, .int .i64 s.tr, .bool s.wr, .bool s.fl] 52) ∧ wx.cell? ⟨b, off + k * 5 + 2, none⟩ = some (.int .i64 mr)) (by kernel_rfl) (by rw [← hwd]; exact hHeld) (fun _ => ?_)
      rw [← hwd]
      clear hwd
      refine takeW 0 17 ?_ rfl rfl (by kernel_rfl) (by kernel_rfl) (by kernel_rfl) (fun _ _ _ h => h) (Or.inl ⟨by rfl, ?_⟩) hHeld ?_
      rotate_left
      · (intro wx hSw; (try dsimp only at hSw); go_simp; try with_reducible rfl)
      simp only [List.setIfInBounds_toArray, List.set_cons_zero, List.set_cons_succ]
      refine takeW 1 18 (.agg #[vp, vl]) rfl rfl (by kernel_rfl) (by kernel_rfl) (by kernel_rfl) (fun _ _ _ h => h) (yields_loadL (by rfl) 42 (.tmp 17) rfl a0 0 rfl #[vp, vl] _ (fun _ h => range_of h.1 0 2) Tryz.underlying42 rfl Tryz.sizeDiskG) hHeld ?_
      simp only [List.setIfInBounds_toArray, List.set_cons_zero, List.set_cons_succ]
      refine takeW 2 19 ?_ rfl rfl (by kernel_rfl) (by kernel_rfl) (by kernel_rfl) (fun _ _ _ h => h) (Or.inl ⟨by rfl, ?_⟩) hHeld ?_
      rotate_left
      · (intro wx hSw; (try dsimp only at hSw); go_simp; try with_reducible rfl)
      simp only [List.setIfInBounds_toArray, List.set_cons_zero, List.set_cons_succ]
      refine takeW 3 20 ?_ rfl rfl (by kernel_rfl) (by kernel_rfl) (by kernel_rfl) (fun _ _ _ h => h) (Or.inl ⟨by rfl, ?_⟩) hHeld ?_
      rotate_left
      · (intro wx hSw; (try dsimp only at hSw); have hx6 : wx.cell? ⟨a0, 6, none⟩ = some (.slice (some ⟨b, off, none⟩) L cap) := (cell_at hSw.1 6).1; go_simp; try with_reducible rfl)
      simp only [List.setIfInBounds_toArray, List.set_cons_zero, List.set_cons_succ]
      refine takeW 4 21 ?_ rfl rfl (by kernel_rfl) (by kernel_rfl) (by kernel_rfl) (fun _ _ _ h => h) (Or.inl ⟨by rfl, ?_⟩) hHeld ?_
      rotate_left
      · (intro wx hSw; (try dsimp only at hSw); go_simp; try with_reducible rfl)
      simp only [List.setIfInBounds_toArray, List.set_cons_zero, List.set_cons_succ]
      refine takeW 5 22 ?_ rfl rfl (by kernel_rfl) (by kernel_rfl) (by kernel_rfl) (fun _ _ _ h => h) (Or.inl ⟨by rfl, ?_⟩) hHeld ?_
      rotate_left
      · (intro wx hSw; (try dsimp only at hSw); go_simp; try with_reducible rfl)
      simp only [List.setIfInBounds_toArray, List.set_cons_zero, List.set_cons_succ]
      refine takeW 6 23 ?_ rfl rfl (by kernel_rfl) (by kernel_rfl) (by kernel_rfl) (fun _ _ _ h => h) (Or.inl ⟨by rfl, ?_⟩) hHeld ?_
      rotate_left
      · (intro wx hSw; (try dsimp only at hSw); go_simp; try with_reducible rfl)
      simp only [List.setIfInBounds_toArray, List.set_cons_zero, List.set_cons_succ]
      refine takeW 7 24 ?_ rfl rfl (by kernel_rfl) (by kernel_rfl) (by kernel_rfl) (fun _ _ _ h => h) (Or.inl ⟨by rfl, ?_⟩) hHeld ?_
      rotate_left
      · (intro wx hSw; (try dsimp only at hSw); go_simp; try with_reducible rfl)
      simp only [List.setIfInBounds_toArray, List.set_cons_zero, List.set_cons_succ]
      refine takeW 8 25 ?_ rfl rfl (by kernel_rfl) (by kernel_rfl) (by kernel_rfl) (fun _ _ _ h => h) (Or.inl ⟨by rfl, ?_⟩) hHeld ?_
      rotate_left
      · (intro wx hSw; (try dsimp only at hSw); have hx7 := hSw.2; go_simp; try with_reducible rfl)
      simp only [List.setIfInBounds_toArray, List.set_cons_zero, List.set_cons_succ]
      refine takeW 9 26 ?_ rfl rfl (by kernel_rfl) (by kernel_rfl) (by kernel_rfl) (fun _ _ _ h => h) (Or.inl ⟨by rfl, ?_⟩) hHeld ?_
      rotate_left
      · (intro wx hSw; (try dsimp only at hSw); go_simp; try with_reducible rfl)
      simp only [List.setIfInBounds_toArray, List.set_cons_zero, List.set_cons_succ]
      refine wpAnyH_ready (rs := [10]) (by kernel_rfl) (by simp) ?_
      refine AllReadyH.cons rfl (fun K hK => ?_) AllReadyH.nil
      refine step_call3 wd ?_ 14 Tryz.f14 Tryz.func14 ?_ ?_ (.tmp 18) (.tmp 25) (.tmp 26) #[42, 3, 9] ?_ (.agg #[vp, vl]) (.int .i64 mr) (.string key) ?_ ?_ ?_ _ (HG.out _ (disk_below HD.out HBd.out)) ?_
      · exact rfl
      · decide
      · exact Option.some_ne_none _
      · exact rfl
      · exact rfl
      · exact rfl
      · exact rfl
      rintro e w2 ⟨rfl, hb⟩
      refine ⟨_, rfl, ?_⟩
      have HB2 : Hid (Below w.heap.size w w2) := hide (HBd.out.trans (hb.mono HBd.out.size))
      have hS2 := HSw.out w2 HB2.out (hb.block a0 (by have := HZd.out; omega) |>.trans hHeld.1)
      refine hK.out (Act.put _ (some 27) _) _ hS2 (fun _ => ?_)
      clear hK K hb
      simp only [Act.put, List.setIfInBounds_toArray, List.set_cons_zero, List.set_cons_succ]
      refine takeW 11 16 ?_ rfl rfl (by kernel_rfl) (by kernel_rfl) (by kernel_rfl) (fun _ _ _ h => h) (Or.inl ⟨by rfl, ?_⟩) hS2 ?_
      rotate_left
      · (intro wx hSw; (try dsimp only at hSw); go_simp; try with_reducible rfl)
      simp only [List.setIfInBounds_toArray, List.set_cons_zero, List.set_cons_succ]
      refine takeW 12 28 ?_ rfl rfl (by kernel_rfl) (by kernel_rfl) (by kernel_rfl) (fun _ _ _ h => h) (Or.inl ⟨by rfl, ?_⟩) hS2 ?_
      rotate_left
      · (intro wx hSw; (try dsimp only at hSw); go_simp; try with_reducible rfl)
      simp only [List.setIfInBounds_toArray, List.set_cons_zero, List.set_cons_succ]
      refine takeW 13 29 ?_ rfl rfl (by kernel_rfl) (by kernel_rfl) (by kernel_rfl) (fun _ _ _ h => h) (Or.inl ⟨by rfl, ?_⟩) hS2 ?_
      rotate_left
      · (intro wx hSw; (try dsimp only at hSw); go_simp; try with_reducible rfl)
      simp only [List.setIfInBounds_toArray, List.set_cons_zero, List.set_cons_succ]
      refine takeW 14 9 ?_ rfl rfl (by kernel_rfl) (by kernel_rfl) (by kernel_rfl) (fun _ _ _ h => h) (Or.inl ⟨by rfl, ?_⟩) hS2 ?_
      rotate_left
      · (intro wx hSw; (try dsimp only at hSw); go_simp; try with_reducible rfl)
      simp only [List.setIfInBounds_toArray, List.set_cons_zero, List.set_cons_succ]
      refine takeW 15 10 ?_ rfl rfl (by kernel_rfl) (by kernel_rfl) (by kernel_rfl) (fun _ _ _ h => h) (Or.inl ⟨by rfl, ?_⟩) hS2 ?_
      rotate_left
      · (intro wx hSw; (try dsimp only at hSw); go_simp; try with_reducible rfl)
      simp only [List.setIfInBounds_toArray, List.set_cons_zero, List.set_cons_succ]
      refine wpAnyH_done (by kernel_rfl) ?_ _
      clear hS2 hHeld HSw
      go_wp2_with fail
      go_ret2
      exact ⟨rfl, HB2.out⟩
end Go.Proofs.YtbokjfjdjgopeaaGreatDoor

namespace Go.Proofs.YtbokjfjdjgopeaaGreatDoor
open Go.RowKit

set_option maxHeartbeats 16000000 in
set_option maxRecDepth 100000 in
theorem lawReaderGet (v : Value) (s : St) (hf : s.fits) (id : Int) (key : ByteArray) (hkey : key.size ≤ maxLen) (T : World → Prop) (hTb : ∀ wx wy, T wx → Below wx.heap.size wx wy → T wy)
    (hI : s.bulk ≤ 1048576 → key.size ≤ 1048576 → ∀ u wx, T wx → StAt wx u s → Calls Tryz.prog 7 #[u, .int .i64 id, .string key] wx fun e w' => e = .returned (.tuple #[.string (rget s id key).1, .int .i64 (rget s id key).2]) ∧ Below wx.heap.size wx w')
    (w : World) (hT : T w) (hd : StAt w v s) :
    Calls Tryz.prog 3 #[v, .int .i64 id, .string key] w fun e w' => e = .returned (.bool true) ∧ Below w.heap.size w w' := by
  have HTb : Hid (∀ wy, Below w.heap.size w wy → T wy) := hide (fun wy h => hTb w wy hT h)
  clear hTb hT
  unfold maxLen at hkey
  obtain ⟨kn, hkn⟩ : ∃ n, n = key.size := ⟨_, rfl⟩
  by_cases hkb : 1048576 < key.size
  · have dk : decide ((1048576 : Int) < (key.size : Int)) = true := decide_eq_true (by omega)
    have HB : Hid (∀ o, Below w.heap.size w (w.alloc o)) := hide (fun o => (Below.refl w.heap.size w).alloc (Nat.le_refl _) o)
    obtain ⟨cs, rfl, hn⟩ := st_arr hd
    clear hd hn hI
    go_enter Tryz.func3, Tryz.ntmps3
    go_wp2_with fail
    go_ret
    exact ⟨rfl, HB.out _⟩
  have dk : decide ((1048576 : Int) < (key.size : Int)) = false := decide_eq_false (by omega)
  have HSz := hide (fun wx h => szStore_any v s hf 1048576 (Nat.le_refl _) wx h)
  have HSt := hide hd
  obtain ⟨cs, rfl, hn⟩ := st_arr hd
  have HN : Hid ((Tryz.prog.info? 36).map (·.size) = some cs.size) := hide (by rw [hn]; exact Tryz.sizeL)
  clear hf hd hn
  obtain ⟨a0, ha0⟩ : ∃ a, a = w.heap.size := ⟨_, rfl⟩
  have hS0 := sep_new (sep_nil w.heap.size w) (Obj.cells cs 36) (Nat.le_refl _)
  obtain ⟨w0, hw0⟩ : ∃ w0, w0 = w.alloc (Obj.cells cs 36) := ⟨_, rfl⟩
  rw [← hw0, ← ha0] at hS0
  have HS_w0 := hide hS0
  have HB_w0 : Hid (Below w.heap.size w w0) := hide (by rw [hw0]; exact (Below.refl w.heap.size w).alloc (Nat.le_refl _) _)
  have HZ_w0 : Hid (a0 ≤ w0.heap.size) := hide (by rw [hw0, ha0]; simp)
  have HA := hide ha0
  have HR0 : Hid (w0.rangeAt a0 0 cs.toList) := hide (range_all (sep_get HS_w0.out 0 rfl : w0.heap[a0]? = some (Obj.cells cs 36)))
  clear hS0 ha0
  by_cases hbk : s.bulk ≤ 1048576
  rotate_left
  · rw [szOut_no (by omega)] at HSz
    go_enter Tryz.func3, Tryz.ntmps3
    go_upto_region 4 with fail
    rw [← hw0, ← HA.out]
    clear hw0
    go_wp2_with ((with_reducible refine wpList_loadL ?_ 36 (.tmp 3) ?_ a0 0 ?_ cs HR0.out _ Tryz.underlying36 ?_ ?_ ?_); exact rfl; exact rfl; exact rfl; exact rfl; exact HN.out)
    refine (HSz.out _ (st_below HSt.out HB_w0.out)).mono ?_
    rintro e w1 ⟨rfl, hb1⟩
    go_wp2_with fail
    go_ret
    exact ⟨rfl, HB_w0.out.trans (hb1.mono HB_w0.out.size)⟩
  obtain ⟨r, hr⟩ : ∃ r : Nat, szOut 1048576 s.bulk = (r : Int) := ⟨_, szOut_yes hbk⟩
  rw [hr] at HSz
  have hsm := bulkSt_in hbk
  have HSp := hide (fun u wx h => specReaderGet_any u s hsm id key wx h)
  have HIm := hide (hI hbk (by omega))
  have HTo := hide (fun u wx h => toStore_any u s hsm wx h)
  have HEx := hide (fun u u' wx h h' => eqStore_same u u' s hsm wx h h')
  obtain ⟨rv, hrv⟩ : ∃ o, o = (rget s id key).1 := ⟨_, rfl⟩
  obtain ⟨rc, hrc⟩ : ∃ o, o = (rget s id key).2 := ⟨_, rfl⟩
  rw [← hrv, ← hrc] at HSp HIm
  have dz : (rc != rc) = false := by simp
  clear hbk hr hsm hI hrv hrc hkb hkn
  go_enter Tryz.func3, Tryz.ntmps3
  go_upto_region 4 with fail
  rw [← hw0, ← HA.out]
  clear hw0 HR0
  have HRg : Hid (w0.rangeAt a0 0 cs.toList) := hide (range_all (sep_get HS_w0.out 0 rfl : w0.heap[a0]? = some (Obj.cells cs 36)))
  go_wp2_with ((with_reducible refine wpList_loadL ?_ 36 (.tmp 3) ?_ a0 0 ?_ cs HRg.out _ Tryz.underlying36 ?_ ?_ ?_); exact rfl; exact rfl; exact rfl; exact rfl; exact HN.out)
  clear HRg
  refine (HSz.out _ (st_below HSt.out HB_w0.out)).mono ?_
  rintro e w1 ⟨rfl, hb⟩
  have HS_w1 := hide (sep_below HS_w0.out hb)
  have HB_w1 : Hid (Below w.heap.size w w1) := hide (HB_w0.out.trans (hb.mono HB_w0.out.size))
  have HZ_w1 : Hid (a0 ≤ w1.heap.size) := hide (Nat.le_trans HZ_w0.out hb.size)
  clear hb
  have HRg : Hid (w1.rangeAt a0 0 cs.toList) := hide (range_all (sep_get HS_w1.out 0 rfl : w1.heap[a0]? = some (Obj.cells cs 36)))
  go_wp2_with ((with_reducible refine wpList_loadL ?_ 36 (.tmp 3) ?_ a0 0 ?_ cs HRg.out _ Tryz.underlying36 ?_ ?_ ?_); exact rfl; exact rfl; exact rfl; exact rfl; exact HN.out)
  clear HRg
  refine (HTo.out _ _ (st_below HSt.out HB_w1.out)).mono ?_
  rintro e w2 ⟨va, rfl, hoa, hb⟩
  have HS_w2 := hide (sep_below HS_w1.out hb)
  have HB_w2 : Hid (Below w.heap.size w w2) := hide (HB_w1.out.trans (hb.mono HB_w1.out.size))
  have HZ_w2 : Hid (a0 ≤ w2.heap.size) := hide (Nat.le_trans HZ_w1.out hb.size)
  have HOa := hide (st_of_own hoa)
  clear hb hoa
  go_wp2_with fail
  refine (HSp.out _ _ HOa.out).mono ?_
  rintro e w3 ⟨rfl, hb⟩
  have HS_w3 := hide (sep_below HS_w2.out hb)
  have HB_w3 : Hid (Below w.heap.size w w3) := hide (HB_w2.out.trans (hb.mono HB_w2.out.size))
  have HZ_w3 : Hid (a0 ≤ w3.heap.size) := hide (Nat.le_trans HZ_w2.out hb.size)
  clear hb HOa
  have HRg : Hid (w3.rangeAt a0 0 cs.toList) := hide (range_all (sep_get HS_w3.out 0 rfl : w3.heap[a0]? = some (Obj.cells cs 36)))
  go_wp2_with ((with_reducible refine wpList_loadL ?_ 36 (.tmp 3) ?_ a0 0 ?_ cs HRg.out _ Tryz.underlying36 ?_ ?_ ?_); exact rfl; exact rfl; exact rfl; exact rfl; exact HN.out)
  clear HRg
  refine (HTo.out _ _ (st_below HSt.out HB_w3.out)).mono ?_
  rintro e w4 ⟨vx, rfl, hox, hb⟩
  obtain ⟨Lx, hLx, hsx⟩ := sep_st HS_w3.out hb hox HZ_w3.out
  have HS_w4 := hide (hsx)
  have HB_w4 : Hid (Below w.heap.size w w4) := hide (HB_w3.out.trans (hb.mono HB_w3.out.size))
  have HZ_w4 : Hid (a0 ≤ w4.heap.size) := hide (Nat.le_trans HZ_w3.out hb.size)
  obtain ⟨csx, rfl, hzx, ho1x⟩ := things_arr hLx
  have HTx := hide hLx
  have HO1x := hide ho1x
  have HNx : Hid ((Tryz.prog.info? 52).map (·.size) = some csx.size) := hide (by rw [hzx]; exact Tryz.sizeStore)
  have HYx := hide hzx
  clear hb hox hLx hsx ho1x hzx
  obtain ⟨g5, hg5⟩ : ∃ g, g = w4.heap.size := ⟨_, rfl⟩
  obtain ⟨w5, hw5⟩ : ∃ wx, wx = (w4.alloc (Obj.cells #[.slice none 0 0, .slice none 0 0, .int .i64 0, .int .i64 0, .int .i64 0, .slice none 0 0, .slice none 0 0, .int .i64 0, .int .i64 0, .int .i64 0, .slice none 0 0, .slice none 0 0, .slice none 0 0, .int .i64 0, .slice none 0 0, .slice none 0 0, .slice none 0 0, .int .i64 0, .bool false, .bool false] 52)).setCells w4.heap.size 0 csx.toList := ⟨_, rfl⟩
  have hsv := sep_cellsAll (sep_new HS_w4.out (Obj.cells #[.slice none 0 0, .slice none 0 0, .int .i64 0, .int .i64 0, .int .i64 0, .slice none 0 0, .slice none 0 0, .int .i64 0, .int .i64 0, .int .i64 0, .slice none 0 0, .slice none 0 0, .slice none 0 0, .int .i64 0, .slice none 0 0, .slice none 0 0, .slice none 0 0, .int .i64 0, .bool false, .bool false] 52) HZ_w4.out) 0 rfl csx (by rw [HYx.out]; rfl)
  have hth : Hid ((w4.alloc (Obj.cells #[.slice none 0 0, .slice none 0 0, .int .i64 0, .int .i64 0, .int .i64 0, .slice none 0 0, .slice none 0 0, .int .i64 0, .int .i64 0, .int .i64 0, .slice none 0 0, .slice none 0 0, .slice none 0 0, .int .i64 0, .slice none 0 0, .slice none 0 0, .slice none 0 0, .int .i64 0, .bool false, .bool false] 52)).there w4.heap.size 0 csx.size) := hide (there_of (heap_alloc_new w4 (Obj.cells #[.slice none 0 0, .slice none 0 0, .int .i64 0, .int .i64 0, .int .i64 0, .slice none 0 0, .slice none 0 0, .int .i64 0, .int .i64 0, .int .i64 0, .slice none 0 0, .slice none 0 0, .slice none 0 0, .int .i64 0, .slice none 0 0, .slice none 0 0, .slice none 0 0, .int .i64 0, .bool false, .bool false] 52)) 0 csx.size (by rw [HYx.out]; exact Nat.le_refl 20))
  have HB_w5 : Hid (Below w.heap.size w w5) := hide (by rw [hw5]; exact below_cells HB_w4.out.size _ 0 _ (HB_w4.out.alloc HB_w4.out.size _))
  have HZ_w5 : Hid (a0 ≤ w5.heap.size) := hide (by rw [hw5, size_cells]; have := HZ_w4.out; simp; omega)
  rw [← hw5, ← hg5] at hsv
  have HS_w5 := hide hsv
  have HW := hide hw5.symm
  clear hsv hw5
  go_upto_region 9 with ((with_reducible refine wpList_storeL ?_ 52 (.tmp 10) (.tmp 30) ?_ w4.heap.size 0 csx ?_ ?_ hth.out ?_ ?_ HW.out ?_); exact rfl; exact rfl; exact rfl; exact rfl; exact HNx.out; exact HO1x.out)
  rw [← hg5]
  clear hg5 hth HW
  have HRg : Hid (w5.rangeAt g5 0 csx.toList) := hide (range_all (sep_get HS_w5.out 0 rfl : w5.heap[g5]? = some (Obj.cells csx 52)))
  go_wp2_with ((with_reducible refine wpList_loadL ?_ 52 (.tmp 10) ?_ g5 0 ?_ csx HRg.out _ Tryz.underlying52 ?_ ?_ ?_); exact rfl; exact rfl; exact rfl; exact rfl; exact HNx.out)
  clear HRg
  refine (HIm.out _ _ (HTb.out _ HB_w5.out) (things_at HS_w5.out 1 rfl HTx.out)).mono ?_
  rintro e w6 ⟨rfl, hb⟩
  have HS_w6 := hide (sep_below HS_w5.out hb)
  have HB_w6 : Hid (Below w.heap.size w w6) := hide (HB_w5.out.trans (hb.mono HB_w5.out.size))
  have HZ_w6 : Hid (a0 ≤ w6.heap.size) := hide (Nat.le_trans HZ_w5.out hb.size)
  clear hb
  go_wp2_with fail
  have HSw : Hid (∀ wx : World, wx.heap[a0]? = some (Obj.cells cs 36) → wx.heap[g5]? = some (Obj.cells csx 52) → (fun wx => wx.rangeAt a0 0 cs.toList ∧ wx.rangeAt g5 0 csx.toList) wx) := hide (fun wx h1 h2 => ⟨range_all h1, range_all h2⟩)
  obtain ⟨wd, hwd⟩ : ∃ wd, wd = w6.drew := ⟨_, rfl⟩
  have HS_wd := hide (sep_drew HS_w6.out)
  have HB_wd := hide (HB_w6.out).drew
  have HZ_wd : Hid (a0 ≤ w6.drew.heap.size) := HZ_w6
  rw [← hwd] at HS_wd HB_wd HZ_wd
  have hHeld := HSw.out wd (sep_get HS_wd.out 2 rfl) (sep_get HS_wd.out 0 rfl)
  refine wp_region_held_drew (S := fun wx => wx.rangeAt a0 0 cs.toList ∧ wx.rangeAt g5 0 csx.toList) (by kernel_rfl) (by rw [← hwd]; exact hHeld) (fun _ => ?_)
  rw [← hwd]
  clear hwd
  refine takeW 0 46 (.agg csx) rfl rfl (by kernel_rfl) (by kernel_rfl) (by kernel_rfl) (fun _ _ _ h => h) (yields_loadL (by rfl) 52 (.tmp 10) rfl g5 0 rfl csx _ (fun _ h => h.2) Tryz.underlying52 rfl HNx.out) hHeld ?_
  simp only [List.setIfInBounds_toArray, List.set_cons_zero, List.set_cons_succ]
  refine takeW 1 47 (.agg cs) rfl rfl (by kernel_rfl) (by kernel_rfl) (by kernel_rfl) (fun _ _ _ h => h) (yields_loadL (by rfl) 36 (.tmp 3) rfl a0 0 rfl cs _ (fun _ h => h.1) Tryz.underlying36 rfl HN.out) hHeld ?_
  simp only [List.setIfInBounds_toArray, List.set_cons_zero, List.set_cons_succ]
  refine wpAnyH_ready (rs := [2]) (by kernel_rfl) (by simp) ?_
  refine AllReadyH.cons rfl (fun K hK => ?_) AllReadyH.nil
  refine step_call1 wd ?_ 6 Tryz.f6 Tryz.func6 ?_ ?_ (.tmp 47) #[36] ?_ (.agg cs) ?_ _ (HTo.out _ wd (st_below HSt.out HB_wd.out)) ?_
  · exact rfl
  · decide
  · exact Option.some_ne_none _
  · exact rfl
  · exact rfl
  rintro e w7 ⟨vq, rfl, hoq, hb⟩
  refine ⟨_, rfl, ?_⟩
  have HS_w7 := hide (sep_below HS_wd.out hb)
  have HB_w7 : Hid (Below w.heap.size w w7) := hide (HB_wd.out.trans (hb.mono HB_wd.out.size))
  have HZ_w7 : Hid (a0 ≤ w7.heap.size) := hide (Nat.le_trans HZ_wd.out hb.size)
  have HOq := hide (st_of_own hoq)
  clear hb hoq
  have hS2 := HSw.out _ (sep_get HS_w7.out 2 rfl) (sep_get HS_w7.out 0 rfl)
  refine hK.out (Act.put _ (some 48) _) _ hS2 (fun _ => ?_)
  clear hK K
  simp only [Act.put, List.setIfInBounds_toArray, List.set_cons_zero, List.set_cons_succ]
  refine wpAnyH_ready (rs := [3]) (by kernel_rfl) (by simp) ?_
  refine AllReadyH.cons rfl (fun K hK => ?_) AllReadyH.nil
  refine step_call2 w7 ?_ 8 Tryz.f8 Tryz.func8 ?_ ?_ (.tmp 46) (.tmp 48) #[52, 52] ?_ (.agg csx) vq ?_ ?_ _ (HEx.out _ _ w7 (things_at HS_w7.out 1 rfl HTx.out) HOq.out) ?_
  · exact rfl
  · decide
  · exact Option.some_ne_none _
  · exact rfl
  · exact rfl
  · exact rfl
  rintro e w8 ⟨rfl, hb⟩
  refine ⟨_, rfl, ?_⟩
  have HS_w8 := hide (sep_below HS_w7.out hb)
  have HB_w8 : Hid (Below w.heap.size w w8) := hide (HB_w7.out.trans (hb.mono HB_w7.out.size))
  have HZ_w8 : Hid (a0 ≤ w8.heap.size) := hide (Nat.le_trans HZ_w7.out hb.size)
  clear hb HOq
  have hS3 := HSw.out _ (sep_get HS_w8.out 2 rfl) (sep_get HS_w8.out 0 rfl)
  refine hK.out (Act.put _ (some 49) _) _ hS3 (fun _ => ?_)
  clear hK K
  simp only [Act.put, List.setIfInBounds_toArray, List.set_cons_zero, List.set_cons_succ]
  refine takeW 4 50 ?_ rfl rfl (by kernel_rfl) (by kernel_rfl) (by kernel_rfl) (fun _ _ _ h => h) (Or.inl ⟨by rfl, ?_⟩) hS3 ?_
  rotate_left
  · (intro wx hSw; (try dsimp only at hSw); go_simp; try with_reducible rfl)
  simp only [List.setIfInBounds_toArray, List.set_cons_zero, List.set_cons_succ]
  refine wpAnyH_done (by kernel_rfl) ?_ _
  clear hS2 hS3 hHeld HSw
  go_wp2_with fail
  go_ret
  exact ⟨rfl, HB_w8.out⟩
end Go.Proofs.YtbokjfjdjgopeaaGreatDoor

namespace Go.Proofs.YtbokjfjdjgopeaaGreatDoor
open Go.RowKit Go.ChangeShapes Go.WideShapes Go.Deep

theorem row_intsM {H : Type} {enc : TypeId × Value → H} {W : World} {base : Nat} {spare : Nat → Bool} {held : Bool} {fuel : Nat} {v : Value} {x : DataW H × List MemPlace}
    (h : DataW.trod enc Tryz.prog W base spare held fuel 30 [v] = some x) : ∃ cs : List Int, RowAt W 1 v cs.length (ints cs) ∧ cs.length ≤ maxLen := by
  rcases open_ints Tryz.underlying30 Tryz.underlying3 (by kernel_rfl) h with ⟨hcs, -⟩ | ⟨a, len, cap, zs, hcs, -, hl, hm, hz, -, hx, -⟩
  · injection hcs with hcs
    subst hcs
    exact ⟨[], ⟨rfl, none, 0, rfl, Or.inl rfl⟩, by unfold maxLen; simp⟩
  · injection hcs with hcs
    subst hcs
    have hlm : len ≤ zs.length := by rw [hz]; split <;> omega
    have hlen : (zs.take len).length = len := by rw [List.length_take]; omega
    refine ⟨zs.take len, ?_, by omega⟩
    rw [hlen]
    refine ⟨by rw [ints_length, hlen]; simp, some a, cap, rfl, ?_⟩
    by_cases h0 : len = 0
    · exact Or.inl h0
    · obtain ⟨b, off, spot⟩ := a
      have hc := hx 0 (by omega)
      obtain rfl : spot = none := by simpa [Addr.add] using World.cell?_spot hc
      refine Or.inr ⟨b, off, rfl, World.block_lt_of_cell? W _ (by simpa [Addr.add] using hc : W.cell? ⟨b, off, none⟩ = _), fun j hj => ?_⟩
      have hj' : j < len := by omega
      have := hx j (by omega)
      rw [Addr.add_lit] at this
      rw [this, ints_at _ j (by omega)]
      simp [List.getD, show j < zs.length by omega]

theorem row_frees {H : Type} {enc : TypeId × Value → H} {W : World} {base : Nat} {spare : Nat → Bool} {held : Bool} {fuel : Nat} {v : Value} {x : DataW H × List MemPlace}
    (h : DataW.trod enc Tryz.prog W base spare held fuel 26 [v] = some x) : ∃ fs : List (Int × List Int), FreesAt W v fs ∧ fs.length ≤ maxLen ∧ ∀ f ∈ fs, f.2.length ≤ maxLen := by
  rcases open_slice_pairs Tryz.underlying26 Tryz.underlying116 (by kernel_rfl) rfl rfl (by kernel_rfl) (by kernel_rfl) h with ⟨hcs, -⟩ | ⟨a, len, cap, m, n, V0, V1, D0, D1, P0, P1, hcs, -, hl, hm, hmm, -, hx⟩
  · injection hcs with hcs
    subst hcs
    exact ⟨[], ⟨[], rfl, ⟨rfl, none, 0, rfl, Or.inl rfl⟩, fun k p f hp => by simp at hp⟩, by unfold maxLen; simp, fun s hs => by cases hs⟩
  · injection hcs with hcs
    subst hcs
    have hlm : len ≤ m := by rw [hmm]; split <;> omega
    have each : ∀ i, i < m → ∃ q : Int × List Int, V0 i = .int .i64 q.1 ∧ RowAt W 1 (V1 i) q.2.length (ints q.2) ∧ q.2.length ≤ maxLen := fun i hi => by
      obtain ⟨h1, h2, h3, h4⟩ := hx i hi
      obtain ⟨k, e1, e2, -⟩ := DataW.trod_int Tryz.underlying3 h3
      obtain ⟨s, g1, g2⟩ := row_intsM h4
      exact ⟨(k, s), by simpa using e1, g1, g2⟩
    obtain ⟨q, hq⟩ := choose_lt each
    refine ⟨(List.range len).map q, ⟨(List.range len).map (fun i => ((q i).1, V1 i)), by simp, ?_, fun k p f hp hf => ?_⟩, by simp; omega, fun s hs => ?_⟩
    · rw [List.length_map, List.length_range]
      refine ⟨by rw [frs_length]; simp, some a, cap, rfl, ?_⟩
      by_cases h0 : len = 0
      · exact Or.inl h0
      · obtain ⟨b, off, spot⟩ := a
        have hc := (hx 0 (by omega)).1
        obtain rfl : spot = none := by simpa [Addr.add] using World.cell?_spot hc
        refine Or.inr ⟨b, off, rfl, World.block_lt_of_cell? W _ (by simpa [Addr.add] using hc : W.cell? ⟨b, off, none⟩ = _), fun j hj => ?_⟩
        have hi : j / 2 < len := by omega
        obtain ⟨h1, h2, -, -⟩ := hx (j / 2) (by omega)
        rw [Addr.add_lit] at h1 h2
        have hp := frs_at ((List.range len).map (fun i => ((q i).1, V1 i))) (j / 2) ((q (j / 2)).1, V1 (j / 2)) (by simp [hi])
        rcases Nat.mod_two_eq_zero_or_one j with e | e
        · rw [show j = j / 2 * 2 from by omega, hp.1, h1, (hq (j / 2) (by omega)).1]
        · rw [show j = j / 2 * 2 + 1 from by omega, hp.2, h2]
    · have hk : k < len := by have := (List.getElem?_eq_some_iff.1 hp).1; simpa using this
      rw [List.getElem?_map, List.getElem?_range hk] at hp hf
      simp at hp hf
      subst hp hf
      exact ⟨rfl, (hq k (by omega)).2.1⟩
    · obtain ⟨i, hi, rfl⟩ := List.mem_map.1 hs
      exact (hq i (by have := List.mem_range.1 hi; omega)).2.2

set_option maxRecDepth 100000 in
theorem open_meta {H : Type} {enc : TypeId × Value → H} {W : World} {r : Reach} {b0 base : Nat} {spare : Nat → Bool} {held : Bool} {v : Value} {d : DataW H} {p : List MemPlace}
    (hv : Value.okWide Tryz.prog W r b0 28 v) (h : DataW.Trod enc Tryz.prog W base spare held 28 v d p) :
    ∃ m : Mt, MetaAt W v m ∧ m.fs.length ≤ maxLen ∧ ∀ f ∈ m.fs, f.2.length ≤ maxLen := by
  obtain ⟨v0, v1, v2, v3, y0, y1, y2, y3, n, rfl, -, -, h0, h1, h2, h3⟩ := Joins.open_agg4 Tryz.underlying28 (by kernel_rfl) (by kernel_rfl) hv h
  obtain ⟨tx, e0, -⟩ := DataW.trod_int Tryz.underlying3 h0
  obtain ⟨root, e1, -⟩ := DataW.trod_int Tryz.underlying3 h1
  obtain ⟨next, e2, -⟩ := DataW.trod_int Tryz.underlying3 h2
  injection e0 with e0
  injection e1 with e1
  injection e2 with e2
  subst e0 e1 e2
  obtain ⟨fs, k1, k2, k3⟩ := row_frees h3
  exact ⟨⟨tx, root, next, fs⟩, ⟨v3, rfl, k1⟩, k2, k3⟩
end Go.Proofs.YtbokjfjdjgopeaaGreatDoor

namespace Go.Proofs.YtbokjfjdjgopeaaGreatDoor
open Go.RowKit Go.ChangeShapes Go.WideShapes Go.Deep

theorem row_strs {H : Type} {enc : TypeId × Value → H} {W : World} {base : Nat} {spare : Nat → Bool} {held : Bool} {fuel : Nat} {v : Value} {x : DataW H × List MemPlace}
    (h : DataW.trod enc Tryz.prog W base spare held fuel 22 [v] = some x) : ∃ ps : List ByteArray, RowAt W 1 v ps.length (strs ps) ∧ ps.length ≤ maxLen ∧ ∀ s ∈ ps, s.size ≤ maxLen := by
  rcases open_strs Tryz.underlying22 Tryz.underlying9 (by kernel_rfl) h with ⟨hcs, -⟩ | ⟨a, len, cap, m, Sx, hcs, -, hl, hm, hmm, -, hx⟩
  · injection hcs with hcs
    subst hcs
    exact ⟨[], ⟨rfl, none, 0, rfl, Or.inl rfl⟩, by unfold maxLen; simp, fun s hs => by cases hs⟩
  · injection hcs with hcs
    subst hcs
    have hlm : len ≤ m := by rw [hmm]; split <;> omega
    refine ⟨(List.range len).map Sx, ?_, by simp; omega, fun s hs => ?_⟩
    · rw [List.length_map, List.length_range]
      refine ⟨by rw [strs_length]; simp, some a, cap, rfl, ?_⟩
      by_cases h0 : len = 0
      · exact Or.inl h0
      · obtain ⟨b, off, spot⟩ := a
        have hc := (hx 0 (by omega)).1
        obtain rfl : spot = none := by simpa [Addr.add] using World.cell?_spot hc
        refine Or.inr ⟨b, off, rfl, World.block_lt_of_cell? W _ (by simpa [Addr.add] using hc : W.cell? ⟨b, off, none⟩ = _), fun j hj => ?_⟩
        have hj' : j < len := by omega
        have := (hx j (by omega)).1
        rw [Addr.add_lit] at this
        rw [this, strs_at _ j (by simpa using hj')]
        simp
    · obtain ⟨i, hi, rfl⟩ := List.mem_map.1 hs
      exact (hx i (by have := List.mem_range.1 hi; omega)).2

theorem row_puts {H : Type} {enc : TypeId × Value → H} {W : World} {base : Nat} {spare : Nat → Bool} {held : Bool} {fuel : Nat} {v : Value} {x : DataW H × List MemPlace}
    (h : DataW.trod enc Tryz.prog W base spare held fuel 23 [v] = some x) : ∃ ls : List (Int × ByteArray), RowAt W 2 v ls.length (puts ls) ∧ ls.length ≤ maxLen ∧ ∀ p ∈ ls, p.2.size ≤ maxLen := by
  rcases open_slice_pairs Tryz.underlying23 Tryz.underlying113 (by kernel_rfl) rfl rfl (by kernel_rfl) (by kernel_rfl) h with ⟨hcs, -⟩ | ⟨a, len, cap, m, n, V0, V1, D0, D1, P0, P1, hcs, -, hl, hm, hmm, -, hx⟩
  · injection hcs with hcs
    subst hcs
    exact ⟨[], ⟨rfl, none, 0, rfl, Or.inl rfl⟩, by unfold maxLen; simp, fun s hs => by cases hs⟩
  · injection hcs with hcs
    subst hcs
    have hlm : len ≤ m := by rw [hmm]; split <;> omega
    have each : ∀ i, i < m → ∃ q : Int × ByteArray, V0 i = .int .i64 q.1 ∧ V1 i = .string q.2 ∧ q.2.size ≤ maxLen := fun i hi => by
      obtain ⟨h1, h2, h3, h4⟩ := hx i hi
      obtain ⟨k, e1, e2, -⟩ := DataW.trod_int Tryz.underlying3 h3
      obtain ⟨s, g1, g2, g3⟩ := DataW.trod_string Tryz.underlying9 h4
      exact ⟨(k, s), by simpa using e1, by simpa using g1, g3⟩
    obtain ⟨q, hq⟩ := choose_lt each
    refine ⟨(List.range len).map q, ?_, by simp; omega, fun s hs => ?_⟩
    · rw [List.length_map, List.length_range]
      refine ⟨by rw [puts_length]; simp, some a, cap, rfl, ?_⟩
      by_cases h0 : len = 0
      · exact Or.inl h0
      · obtain ⟨b, off, spot⟩ := a
        have hc := (hx 0 (by omega)).1
        obtain rfl : spot = none := by simpa [Addr.add] using World.cell?_spot hc
        refine Or.inr ⟨b, off, rfl, World.block_lt_of_cell? W _ (by simpa [Addr.add] using hc : W.cell? ⟨b, off, none⟩ = _), fun j hj => ?_⟩
        have hi : j / 2 < len := by omega
        obtain ⟨h1, h2, -, -⟩ := hx (j / 2) (by omega)
        rw [Addr.add_lit] at h1 h2
        have hp := puts_at ((List.range len).map q) (j / 2) (by simpa using hi)
        rcases Nat.mod_two_eq_zero_or_one j with e | e
        · rw [show j = j / 2 * 2 from by omega, hp.1, h1, (hq (j / 2) (by omega)).1]
          simp
        · rw [show j = j / 2 * 2 + 1 from by omega, hp.2, h2, (hq (j / 2) (by omega)).2.1]
          simp
    · obtain ⟨i, hi, rfl⟩ := List.mem_map.1 hs
      exact (hq i (by have := List.mem_range.1 hi; omega)).2.2

set_option maxRecDepth 100000 in
theorem open_disk {H : Type} {enc : TypeId × Value → H} {W : World} {r : Reach} {b0 base : Nat} {spare : Nat → Bool} {held : Bool} {v : Value} {d : DataW H} {p : List MemPlace}
    (hv : Value.okWide Tryz.prog W r b0 25 v) (h : DataW.Trod enc Tryz.prog W base spare held 25 v d p) :
    ∃ ps ls, DiskAt W v ps ls ∧ ps.length ≤ maxLen ∧ (∀ s ∈ ps, s.size ≤ maxLen) ∧ ls.length ≤ maxLen ∧ ∀ p ∈ ls, p.2.size ≤ maxLen := by
  obtain ⟨v0, v1, y0, y1, n, rfl, -, -, h0, h1⟩ := Joins.open_agg2 Tryz.underlying25 (by kernel_rfl) (by kernel_rfl) hv h
  obtain ⟨ps, hp1, hp2, hp3⟩ := row_strs h0
  obtain ⟨ls, hl1, hl2, hl3⟩ := row_puts h1
  exact ⟨ps, ls, ⟨v0, v1, rfl, hp1, hl1⟩, hp2, hp3, hl2, hl3⟩
end Go.Proofs.YtbokjfjdjgopeaaGreatDoor

namespace Go.Proofs.YtbokjfjdjgopeaaGreatDoor
open Go.RowKit Go.ChangeShapes Go.WideShapes Go.Deep

theorem array6 {α : Type} {cs : Array α} (h : cs.size = 6) : ∃ c0 c1 c2 c3 c4 c5, cs = #[c0, c1, c2, c3, c4, c5] := by
  obtain ⟨l⟩ := cs
  match l, h with
  | [c0, c1, c2, c3, c4, c5], _ => exact ⟨c0, c1, c2, c3, c4, c5, rfl⟩

theorem row_intsW {H : Type} {enc : TypeId × Value → H} {W : World} {base : Nat} {spare : Nat → Bool} {held : Bool} {fuel : Nat} {v : Value} {x : DataW H × List MemPlace}
    (h : DataW.trod enc Tryz.prog W base spare held fuel 30 [v] = some x) : ∃ cs : List Int, RowAt W 1 v cs.length (ints cs) ∧ cs.length ≤ maxLen ∧ ∃ a cap, v = .slice a cs.length cap ∧ cs.length ≤ cap := by
  rcases open_ints Tryz.underlying30 Tryz.underlying3 (by kernel_rfl) h with ⟨hcs, -⟩ | ⟨a, len, cap, zs, hcs, -, hl, hm, hz, -, hx, -⟩
  · injection hcs with hcs
    subst hcs
    exact ⟨[], ⟨rfl, none, 0, rfl, Or.inl rfl⟩, by unfold maxLen; simp, none, 0, rfl, Nat.le_refl _⟩
  · injection hcs with hcs
    subst hcs
    have hlm : len ≤ zs.length := by rw [hz]; split <;> omega
    have hlen : (zs.take len).length = len := by rw [List.length_take]; omega
    refine ⟨zs.take len, ?_, by omega, some a, cap, by rw [hlen], by omega⟩
    rw [hlen]
    refine ⟨by rw [ints_length, hlen]; simp, some a, cap, rfl, ?_⟩
    by_cases h0 : len = 0
    · exact Or.inl h0
    · obtain ⟨b, off, spot⟩ := a
      have hc := hx 0 (by omega)
      obtain rfl : spot = none := by simpa [Addr.add] using World.cell?_spot hc
      refine Or.inr ⟨b, off, rfl, World.block_lt_of_cell? W _ (by simpa [Addr.add] using hc : W.cell? ⟨b, off, none⟩ = _), fun j hj => ?_⟩
      have hj' : j < len := by omega
      have := hx j (by omega)
      rw [Addr.add_lit] at this
      rw [this, ints_at _ j (by omega)]
      simp [List.getD, show j < zs.length by omega]

theorem Tryz.cellsWork : Tryz.prog.cellsOf 32 = 6 := by kernel_rfl

set_option maxRecDepth 100000 in
theorem open_work {H : Type} {enc : TypeId × Value → H} {W : World} {r : Reach} {b0 base : Nat} {spare : Nat → Bool} {held : Bool} {v : Value} {d : DataW H} {p : List MemPlace}
    (hv : Value.okWide Tryz.prog W r b0 32 v) (h : DataW.Trod enc Tryz.prog W base spare held 32 v d p) : ∃ k : Wk, WorkAt W v k ∧ k.fits := by
  obtain ⟨cs, rfl, hsz⟩ := okWide_struct Tryz.underlying32 hv
  obtain ⟨c0, c1, c2, c3, c4, c5, rfl⟩ := array6 (hsz.trans Tryz.cellsWork)
  obtain ⟨fuel, hf⟩ := h
  obtain ⟨xs, n, -, -, -, hlen, hfs⟩ := DataW.trod_struct Tryz.underlying32 hf
  match xs, hlen with
  | [y0, y1, y2, y3, y4], _ =>
    have h0 := hfs 0 _ rfl
    have h1 := hfs 1 _ rfl
    have h2 := hfs 2 _ rfl
    have h3 := hfs 3 _ rfl
    have h4 := hfs 4 _ rfl
    replace h0 : DataW.trod enc Tryz.prog W base spare held n 25 [c0, c1] = some y0 := h0
    replace h1 : DataW.trod enc Tryz.prog W base spare held n 3 [c2] = some y1 := h1
    replace h2 : DataW.trod enc Tryz.prog W base spare held n 30 [c3] = some y2 := h2
    replace h3 : DataW.trod enc Tryz.prog W base spare held n 30 [c4] = some y3 := h3
    replace h4 : DataW.trod enc Tryz.prog W base spare held n 30 [c5] = some y4 := h4
    obtain ⟨z0, z1, m, -, -, g0, g1⟩ := trod_struct2 Tryz.underlying25 h0
    replace g0 : DataW.trod enc Tryz.prog W base spare held m 22 [c0] = some z0 := g0
    replace g1 : DataW.trod enc Tryz.prog W base spare held m 23 [c1] = some z1 := g1
    obtain ⟨ps, a1, a2, a3⟩ := row_strs g0
    obtain ⟨ls, b1, b2, b3⟩ := row_puts g1
    obtain ⟨nx, e1, -⟩ := DataW.trod_int Tryz.underlying3 h1
    have e1 : c2 = .int .i64 nx := by injection e1 with e1
    subst e1
    obtain ⟨us, u1, u2, u3⟩ := row_intsW h2
    obtain ⟨gs, g1', g2', -⟩ := row_intsW h3
    obtain ⟨fs, f1', f2', -⟩ := row_intsW h4
    exact ⟨⟨ps, ls, nx, us, gs, fs⟩, ⟨c0, c1, c3, c4, c5, rfl, ⟨c0, c1, rfl, a1, b1⟩, u1, g1', f1', u3⟩, a2, a3, b2, b3, u2, g2', f2'⟩
end Go.Proofs.YtbokjfjdjgopeaaGreatDoor

namespace Go.Proofs.YtbokjfjdjgopeaaGreatDoor
open Go.RowKit Go.ChangeShapes Go.WideShapes Go.Deep

theorem Tryz.cellsReader : Tryz.prog.cellsOf 91 = 5 := by kernel_rfl

set_option maxRecDepth 100000 in
theorem row_rds {H : Type} {enc : TypeId × Value → H} {W : World} {base : Nat} {spare : Nat → Bool} {held : Bool} {fuel : Nat} {v : Value} {x : DataW H × List MemPlace}
    (h : DataW.trod enc Tryz.prog W base spare held fuel 29 [v] = some x) : ∃ rs : List (Int × Mt), RdsAt W v rs ∧ fitsR rs ∧ ∀ r ∈ rs, (Lit.int .i64 r.1).wf = true := by
  rcases open_slice Tryz.underlying29 h with ⟨hcs, -⟩ | ⟨a, len, cap, m, n, D, Pl, hcs, -, hl, hm, hmm, -, hx⟩
  · injection hcs with hcs
    subst hcs
    exact ⟨[], ⟨[], rfl, ⟨rfl, none, 0, rfl, Or.inl rfl⟩, fun k r u hr => by simp at hr⟩, ⟨by unfold maxLen; simp, fun r hr => by cases hr⟩, fun r hr => by cases hr⟩
  · injection hcs with hcs
    subst hcs
    have hlm : len ≤ m := by rw [hmm]; split <;> omega
    have each : ∀ i, i < m → ∃ q : (Int × Mt) × Value, (W.cell? (a.add (i * 5)) = some (.int .i64 q.1.1) ∧ W.cell? (a.add (i * 5 + 1)) = some (.int .i64 q.1.2.tx) ∧ W.cell? (a.add (i * 5 + 2)) = some (.int .i64 q.1.2.root) ∧ W.cell? (a.add (i * 5 + 3)) = some (.int .i64 q.1.2.next) ∧ W.cell? (a.add (i * 5 + 4)) = some q.2) ∧ FreesAt W q.2 q.1.2.fs ∧ q.1.2.fs.length ≤ maxLen ∧ (∀ f ∈ q.1.2.fs, f.2.length ≤ maxLen) ∧ (Lit.int .i64 q.1.1).wf = true := fun i hi => by
      obtain ⟨cs', h1, h2⟩ := hx i hi
      rw [Tryz.cellsReader] at h1
      obtain ⟨-, hlen, hcell⟩ := World.cells?_some h1
      obtain ⟨xs, k, -, -, -, hxl, hf⟩ := DataW.trod_struct Tryz.underlying91 h2
      match xs, hxl, cs', hlen with
      | [y0, y1], _, [c0, c1, c2, c3, c4], _ =>
        have g0 := hf 0 _ rfl
        have g1 := hf 1 _ rfl
        replace g0 : DataW.trod enc Tryz.prog W base spare held k 3 [c0] = some y0 := g0
        replace g1 : DataW.trod enc Tryz.prog W base spare held k 28 [c1, c2, c3, c4] = some y1 := g1
        obtain ⟨ys, k2, -, -, -, hyl, hf2⟩ := DataW.trod_struct Tryz.underlying28 g1
        match ys, hyl with
        | [z0, z1, z2, z3], _ =>
          have f0 := hf2 0 _ rfl
          have f1 := hf2 1 _ rfl
          have f2 := hf2 2 _ rfl
          have f3 := hf2 3 _ rfl
          replace f0 : DataW.trod enc Tryz.prog W base spare held k2 3 [c1] = some z0 := f0
          replace f1 : DataW.trod enc Tryz.prog W base spare held k2 3 [c2] = some z1 := f1
          replace f2 : DataW.trod enc Tryz.prog W base spare held k2 3 [c3] = some z2 := f2
          replace f3 : DataW.trod enc Tryz.prog W base spare held k2 26 [c4] = some z3 := f3
          obtain ⟨i0, e0, -, wf0⟩ := DataW.trod_int Tryz.underlying3 g0
          obtain ⟨i1, e1, -⟩ := DataW.trod_int Tryz.underlying3 f0
          obtain ⟨i2, e2, -⟩ := DataW.trod_int Tryz.underlying3 f1
          obtain ⟨i3, e3, -⟩ := DataW.trod_int Tryz.underlying3 f2
          injection e0 with e0
          injection e1 with e1
          injection e2 with e2
          injection e3 with e3
          subst e0 e1 e2 e3
          obtain ⟨fs, r1, r2, r3⟩ := row_frees f3
          have d0 := hcell 0 (by omega)
          have d1 := hcell 1 (by omega)
          have d2 := hcell 2 (by omega)
          have d3 := hcell 3 (by omega)
          have d4 := hcell 4 (by omega)
          rw [add_add] at d0 d1 d2 d3 d4
          exact ⟨((i0, ⟨i1, i2, i3, fs⟩), c4), ⟨by simpa using d0, by simpa using d1, by simpa using d2, by simpa using d3, by simpa using d4⟩, r1, r2, r3, wf0⟩
    haveI : Inhabited ((Int × Mt) × Value) := ⟨((0, ⟨0, 0, 0, []⟩), .int .i64 0)⟩
    obtain ⟨q, hq⟩ := choose_lt each
    refine ⟨(List.range len).map (fun i => (q i).1), ⟨(List.range len).map (fun i => (q i).2), by simp, ?_, fun k r u hr hu => ?_⟩, ⟨by simp; omega, fun r hr => ?_⟩, fun r hr => ?_⟩
    · rw [List.length_map, List.length_range]
      refine ⟨by rw [rds_length _ _ (by simp)]; simp, some a, cap, rfl, ?_⟩
      by_cases h0 : len = 0
      · exact Or.inl h0
      · obtain ⟨b, off, spot⟩ := a
        have hc := (hq 0 (by omega)).1.1
        obtain rfl : spot = none := by simpa [Addr.add] using World.cell?_spot hc
        refine Or.inr ⟨b, off, rfl, World.block_lt_of_cell? W _ (by simpa [Addr.add] using hc : W.cell? ⟨b, off, none⟩ = _), fun j hj => ?_⟩
        obtain ⟨t0, t1, t2, t3, t4⟩ := rds_at ((List.range len).map (fun i => (q i).1)) ((List.range len).map (fun i => (q i).2)) (j / 5) (q (j / 5)).1 (q (j / 5)).2 (by rw [List.getElem?_map, List.getElem?_range (by omega)]; rfl) (by rw [List.getElem?_map, List.getElem?_range (by omega)]; rfl)
        obtain ⟨c0, c1, c2, c3, c4⟩ := (hq (j / 5) (by omega)).1
        rw [Addr.add_lit] at c0 c1 c2 c3 c4
        have h5 : j % 5 = 0 ∨ j % 5 = 1 ∨ j % 5 = 2 ∨ j % 5 = 3 ∨ j % 5 = 4 := by omega
        rcases h5 with e | e | e | e | e
        · rw [show j = j / 5 * 5 from by omega, t0]; exact c0
        · rw [show j = j / 5 * 5 + 1 from by omega, t1]; exact c1
        · rw [show j = j / 5 * 5 + 2 from by omega, t2]; exact c2
        · rw [show j = j / 5 * 5 + 3 from by omega, t3]; exact c3
        · rw [show j = j / 5 * 5 + 4 from by omega, t4]; exact c4
    · rw [List.getElem?_map] at hr hu
      obtain ⟨i, hi, rfl⟩ := Option.map_eq_some_iff.1 hr
      obtain ⟨i', hi', rfl⟩ := Option.map_eq_some_iff.1 hu
      rw [hi] at hi'
      injection hi' with hi'
      subst hi'
      have hik : i < len := by
        have h1 := List.mem_of_getElem? hi
        exact List.mem_range.1 h1
      exact (hq i (by omega)).2.1
    · obtain ⟨i, hi, rfl⟩ := List.mem_map.1 hr
      have hik : i < len := List.mem_range.1 hi
      exact ⟨(hq i (by omega)).2.2.1, (hq i (by omega)).2.2.2.1⟩
    · obtain ⟨i, hi, rfl⟩ := List.mem_map.1 hr
      have hik : i < len := List.mem_range.1 hi
      exact (hq i (by omega)).2.2.2.2

theorem array20 {α : Type} {cs : Array α} (h : cs.size = 20) : ∃ c0 c1 c2 c3 c4 c5 c6 c7 c8 c9 c10 c11 c12 c13 c14 c15 c16 c17 c18 c19, cs = #[c0, c1, c2, c3, c4, c5, c6, c7, c8, c9, c10, c11, c12, c13, c14, c15, c16, c17, c18, c19] := by
  obtain ⟨l⟩ := cs
  match l, h with
  | [c0, c1, c2, c3, c4, c5, c6, c7, c8, c9, c10, c11, c12, c13, c14, c15, c16, c17, c18, c19], _ => exact ⟨c0, c1, c2, c3, c4, c5, c6, c7, c8, c9, c10, c11, c12, c13, c14, c15, c16, c17, c18, c19, rfl⟩

theorem Tryz.cellsStore : Tryz.prog.cellsOf 36 = 20 := by kernel_rfl

set_option maxRecDepth 100000 in
theorem trod_metaS {H : Type} {enc : TypeId × Value → H} {W : World} {base : Nat} {spare : Nat → Bool} {held : Bool} {k : Nat} {c1 c2 c3 c4 : Value} {y : DataW H × List MemPlace} (h : DataW.trod enc Tryz.prog W base spare held k 28 [c1, c2, c3, c4] = some y) : ∃ m : Mt, c1 = .int .i64 m.tx ∧ c2 = .int .i64 m.root ∧ c3 = .int .i64 m.next ∧ FreesAt W c4 m.fs ∧ m.fs.length ≤ maxLen ∧ ∀ f ∈ m.fs, f.2.length ≤ maxLen := by
  obtain ⟨ys, k2, -, -, -, hyl, hf2⟩ := DataW.trod_struct Tryz.underlying28 h
  match ys, hyl with
  | [z0, z1, z2, z3], _ =>
    have f0 := hf2 0 _ rfl
    have f1 := hf2 1 _ rfl
    have f2 := hf2 2 _ rfl
    have f3 := hf2 3 _ rfl
    replace f0 : DataW.trod enc Tryz.prog W base spare held k2 3 [c1] = some z0 := f0
    replace f1 : DataW.trod enc Tryz.prog W base spare held k2 3 [c2] = some z1 := f1
    replace f2 : DataW.trod enc Tryz.prog W base spare held k2 3 [c3] = some z2 := f2
    replace f3 : DataW.trod enc Tryz.prog W base spare held k2 26 [c4] = some z3 := f3
    obtain ⟨i1, e1, -⟩ := DataW.trod_int Tryz.underlying3 f0
    obtain ⟨i2, e2, -⟩ := DataW.trod_int Tryz.underlying3 f1
    obtain ⟨i3, e3, -⟩ := DataW.trod_int Tryz.underlying3 f2
    injection e1 with e1
    injection e2 with e2
    injection e3 with e3
    obtain ⟨fs, r1, r2, r3⟩ := row_frees f3
    exact ⟨⟨i1, i2, i3, fs⟩, e1, e2, e3, r1, r2, r3⟩

set_option maxRecDepth 100000 in
theorem trod_diskS {H : Type} {enc : TypeId × Value → H} {W : World} {base : Nat} {spare : Nat → Bool} {held : Bool} {k : Nat} {c0 c1 : Value} {y : DataW H × List MemPlace} (h : DataW.trod enc Tryz.prog W base spare held k 25 [c0, c1] = some y) : ∃ ps ls, DiskAt W (.agg #[c0, c1]) ps ls ∧ ps.length ≤ maxLen ∧ (∀ t ∈ ps, t.size ≤ maxLen) ∧ ls.length ≤ maxLen ∧ ∀ p ∈ ls, p.2.size ≤ maxLen := by
  obtain ⟨z0, z1, m, -, -, g0, g1⟩ := trod_struct2 Tryz.underlying25 h
  replace g0 : DataW.trod enc Tryz.prog W base spare held m 22 [c0] = some z0 := g0
  replace g1 : DataW.trod enc Tryz.prog W base spare held m 23 [c1] = some z1 := g1
  obtain ⟨ps, a1, a2, a3⟩ := row_strs g0
  obtain ⟨ls, b1, b2, b3⟩ := row_puts g1
  exact ⟨ps, ls, ⟨c0, c1, rfl, a1, b1⟩, a2, a3, b2, b3⟩

set_option maxRecDepth 100000 in
theorem trod_workS {H : Type} {enc : TypeId × Value → H} {W : World} {base : Nat} {spare : Nat → Bool} {held : Bool} {k : Nat} {c0 c1 c2 c3 c4 c5 : Value} {y : DataW H × List MemPlace} (h : DataW.trod enc Tryz.prog W base spare held k 32 [c0, c1, c2, c3, c4, c5] = some y) : ∃ k : Wk, c2 = .int .i64 k.next ∧ WorkAt W (.agg #[c0, c1, c2, c3, c4, c5]) k ∧ k.fits := by
  obtain ⟨xs, n, -, -, -, hlen, hfs⟩ := DataW.trod_struct Tryz.underlying32 h
  match xs, hlen with
  | [y0, y1, y2, y3, y4], _ =>
    have h0 := hfs 0 _ rfl
    have h1 := hfs 1 _ rfl
    have h2 := hfs 2 _ rfl
    have h3 := hfs 3 _ rfl
    have h4 := hfs 4 _ rfl
    replace h0 : DataW.trod enc Tryz.prog W base spare held n 25 [c0, c1] = some y0 := h0
    replace h1 : DataW.trod enc Tryz.prog W base spare held n 3 [c2] = some y1 := h1
    replace h2 : DataW.trod enc Tryz.prog W base spare held n 30 [c3] = some y2 := h2
    replace h3 : DataW.trod enc Tryz.prog W base spare held n 30 [c4] = some y3 := h3
    replace h4 : DataW.trod enc Tryz.prog W base spare held n 30 [c5] = some y4 := h4
    obtain ⟨ps, ls, d1, a2, a3, b2, b3⟩ := trod_diskS h0
    obtain ⟨nx, e1, -⟩ := DataW.trod_int Tryz.underlying3 h1
    have e1 : c2 = .int .i64 nx := by injection e1 with e1
    subst e1
    obtain ⟨us, u1, u2, u3⟩ := row_intsW h2
    obtain ⟨gs, g1', g2', -⟩ := row_intsW h3
    obtain ⟨fs, f1', f2', -⟩ := row_intsW h4
    exact ⟨⟨ps, ls, nx, us, gs, fs⟩, rfl, ⟨c0, c1, c3, c4, c5, rfl, d1, u1, g1', f1', u3⟩, a2, a3, b2, b3, u2, g2', f2'⟩

set_option maxRecDepth 100000 in
theorem open_store {H : Type} {enc : TypeId × Value → H} {W : World} {r : Reach} {b0 base : Nat} {spare : Nat → Bool} {held : Bool} {v : Value} {d : DataW H} {p : List MemPlace}
    (hv : Value.okWide Tryz.prog W r b0 36 v) (h : DataW.Trod enc Tryz.prog W base spare held 36 v d p) : ∃ s : St, StAt W v s ∧ s.fits ∧ ∀ r ∈ s.rs, (Lit.int .i64 r.1).wf = true := by
  obtain ⟨cs, rfl, hsz⟩ := okWide_struct Tryz.underlying36 hv
  obtain ⟨c0, c1, c2, c3, c4, c5, c6, c7, c8, c9, c10, c11, c12, c13, c14, c15, c16, c17, c18, c19, rfl⟩ := array20 (hsz.trans Tryz.cellsStore)
  obtain ⟨fuel, hf⟩ := h
  obtain ⟨xs, n, -, -, -, hlen, hfs⟩ := DataW.trod_struct Tryz.underlying36 hf
  match xs, hlen with
  | [y0, y1, y2, y3, y4, y5], _ =>
    have h0 := hfs 0 _ rfl
    have h1 := hfs 1 _ rfl
    have h2 := hfs 2 _ rfl
    have h3 := hfs 3 _ rfl
    have h4 := hfs 4 _ rfl
    have h5 := hfs 5 _ rfl
    replace h0 : DataW.trod enc Tryz.prog W base spare held n 25 [c0, c1] = some y0 := h0
    replace h1 : DataW.trod enc Tryz.prog W base spare held n 28 [c2, c3, c4, c5] = some y1 := h1
    replace h2 : DataW.trod enc Tryz.prog W base spare held n 29 [c6] = some y2 := h2
    replace h3 : DataW.trod enc Tryz.prog W base spare held n 34 [c7, c8, c9, c10, c11, c12, c13, c14, c15, c16, c17] = some y3 := h3
    replace h4 : DataW.trod enc Tryz.prog W base spare held n 4 [c18] = some y4 := h4
    replace h5 : DataW.trod enc Tryz.prog W base spare held n 4 [c19] = some y5 := h5
    obtain ⟨zs, n3, -, -, -, hl3, hf3⟩ := DataW.trod_struct Tryz.underlying34 h3
    match zs, hl3 with
    | [z0, z1, z2], _ =>
      have g0 := hf3 0 _ rfl
      have g1 := hf3 1 _ rfl
      have g2 := hf3 2 _ rfl
      replace g0 : DataW.trod enc Tryz.prog W base spare held n3 28 [c7, c8, c9, c10] = some z0 := g0
      replace g1 : DataW.trod enc Tryz.prog W base spare held n3 32 [c11, c12, c13, c14, c15, c16] = some z1 := g1
      replace g2 : DataW.trod enc Tryz.prog W base spare held n3 3 [c17] = some z2 := g2
      obtain ⟨ps, ls, d1, d2, d3, d4, d5⟩ := trod_diskS h0
      obtain ⟨m, rfl, rfl, rfl, m4, m5, m6⟩ := trod_metaS h1
      obtain ⟨rs, r1, r2, r3⟩ := row_rds h2
      obtain ⟨tm, rfl, rfl, rfl, t4, t5, t6⟩ := trod_metaS g0
      obtain ⟨tk, rfl, w1, w2⟩ := trod_workS g1
      obtain ⟨tr, e, -⟩ := DataW.trod_int Tryz.underlying3 g2
      injection e with e
      subst e
      obtain ⟨wr, e4, -⟩ := DataW.trod_bool Tryz.underlying4 h4
      obtain ⟨fl, e5, -⟩ := DataW.trod_bool Tryz.underlying4 h5
      injection e4 with e4
      injection e5 with e5
      subst e4 e5
      exact ⟨⟨ps, ls, m, rs, tm, tk, tr, wr, fl⟩, ⟨c0, c1, c5, c6, c10, c11, c12, c14, c15, c16, rfl, d1, ⟨c5, rfl, m4⟩, r1, ⟨c10, c11, c12, c14, c15, c16, rfl, ⟨c10, rfl, t4⟩, w1⟩⟩, ⟨⟨d2, d3, d4, d5⟩, ⟨m5, m6⟩, r2, ⟨t5, t6⟩, w2⟩, r3⟩
end Go.Proofs.YtbokjfjdjgopeaaGreatDoor
