/-
  Facts and contracts that the law's own text rests on, by their texts' names: StoreRow, SepCells.
-/
import Derived.Test.YtdbpbhemnnffeaaGreatDoorXw11
import Derived.Test.YtdbpbhemnnffeaaGreatDoorXw12
import Derived.Deep.MidRow
import Derived.Test.YtdbpbhemnnffeaaGreatDoorXw6
namespace Go.Proofs.YtdbpbhemnnffeaaGreatDoor
open Go.RowKit
structure St where
  ps : List ByteArray
  ls : List (Int × ByteArray)
  m : Mt
  rs : List (Int × Mt)
  tm : Mt
  tk : Wk
  tr : Int
  wr : Bool
  fl : Bool
def St.bulk (s : St) : Nat := (bulkS s.ps + bulkP s.ls) + bulkF s.m.fs + bulkR s.rs + bulkT s.tm s.tk
def St.fits (s : St) : Prop := (s.ps.length ≤ maxLen ∧ (∀ t ∈ s.ps, t.size ≤ maxLen) ∧ s.ls.length ≤ maxLen ∧ ∀ p ∈ s.ls, p.2.size ≤ maxLen) ∧ (s.m.fs.length ≤ maxLen ∧ ∀ f ∈ s.m.fs, f.2.length ≤ maxLen) ∧ fitsR s.rs ∧ (s.tm.fs.length ≤ maxLen ∧ ∀ f ∈ s.tm.fs, f.2.length ≤ maxLen) ∧ s.tk.fits
def St.small (s : St) : Prop := (s.ps.length ≤ 1048576 ∧ (∀ t ∈ s.ps, t.size ≤ 1048576) ∧ s.ls.length ≤ 1048576 ∧ ∀ p ∈ s.ls, p.2.size ≤ 1048576) ∧ (s.m.fs.length ≤ 1048576 ∧ ∀ f ∈ s.m.fs, f.2.length ≤ 1048576) ∧ (s.rs.length ≤ 1048576 ∧ ∀ r ∈ s.rs, r.2.fs.length ≤ 1048576 ∧ ∀ f ∈ r.2.fs, f.2.length ≤ 1048576) ∧ (s.tm.fs.length ≤ 1048576 ∧ ∀ f ∈ s.tm.fs, f.2.length ≤ 1048576) ∧ s.tk.bulk ≤ 1048576
theorem bulkSt_in {s : St} (h : s.bulk ≤ 1048576) : s.small := by
  unfold St.bulk bulkT at h
  have hr := bulkR_in (l := s.rs) (m := 1048576) (by omega)
  exact ⟨bulk_inW (by omega), bulkF_in (by omega), ⟨hr.1, fun r h => bulkF_in (hr.2 r h)⟩, bulkF_in (by omega), by omega⟩
def StAt (w : World) (v : Value) (s : St) : Prop := ∃ vp vl vf vR vr up ul uu ug uf, v = .agg #[vp, vl, .int .i64 s.m.tx, .int .i64 s.m.root, .int .i64 s.m.next, vf, vR, .int .i64 s.tm.tx, .int .i64 s.tm.root, .int .i64 s.tm.next, vr, up, ul, .int .i64 s.tk.next, uu, ug, uf, .int .i64 s.tr, .bool s.wr, .bool s.fl] ∧
  DiskAt w (.agg #[vp, vl]) s.ps s.ls ∧ MetaAt w (.agg #[.int .i64 s.m.tx, .int .i64 s.m.root, .int .i64 s.m.next, vf]) s.m ∧ RdsAt w vR s.rs ∧ TxnAt w (.agg #[.int .i64 s.tm.tx, .int .i64 s.tm.root, .int .i64 s.tm.next, vr, up, ul, .int .i64 s.tk.next, uu, ug, uf, .int .i64 s.tr]) s.tm s.tk s.tr
theorem st_below {w w' : World} {v : Value} {s : St} (h : StAt w v s) (hb : Below w.heap.size w w') : StAt w' v s := by
  obtain ⟨vp, vl, vf, vR, vr, up, ul, uu, ug, uf, e, h1, h2, h3, h4⟩ := h
  exact ⟨vp, vl, vf, vR, vr, up, ul, uu, ug, uf, e, disk_below h1 hb, meta_below h2 hb, rds_below h3 hb, txn_below h4 hb⟩
theorem blk20c {W : World} {g : Nat} {c0 c1 c2 c3 c4 c5 c6 c7 c8 c9 c10 c11 c12 c13 c14 c15 c16 c17 c18 c19 : Value} {t : TypeId} (h : W.heap[g]? = some (Obj.cells #[c0, c1, c2, c3, c4, c5, c6, c7, c8, c9, c10, c11, c12, c13, c14, c15, c16, c17, c18, c19] t)) : W.cell? ⟨g, 0, none⟩ = some c0 ∧ W.cell? ⟨g, 1, none⟩ = some c1 ∧ W.cell? ⟨g, 2, none⟩ = some c2 ∧ W.cell? ⟨g, 3, none⟩ = some c3 ∧ W.cell? ⟨g, 4, none⟩ = some c4 ∧ W.cell? ⟨g, 5, none⟩ = some c5 ∧ W.cell? ⟨g, 6, none⟩ = some c6 ∧ W.cell? ⟨g, 7, none⟩ = some c7 ∧ W.cell? ⟨g, 8, none⟩ = some c8 ∧ W.cell? ⟨g, 9, none⟩ = some c9 ∧ W.cell? ⟨g, 10, none⟩ = some c10 ∧ W.cell? ⟨g, 11, none⟩ = some c11 ∧ W.cell? ⟨g, 12, none⟩ = some c12 ∧ W.cell? ⟨g, 13, none⟩ = some c13 ∧ W.cell? ⟨g, 14, none⟩ = some c14 ∧ W.cell? ⟨g, 15, none⟩ = some c15 ∧ W.cell? ⟨g, 16, none⟩ = some c16 ∧ W.cell? ⟨g, 17, none⟩ = some c17 ∧ W.cell? ⟨g, 18, none⟩ = some c18 ∧ W.cell? ⟨g, 19, none⟩ = some c19 :=
  ⟨(cell_at h 0).1, (cell_at h 1).1, (cell_at h 2).1, (cell_at h 3).1, (cell_at h 4).1, (cell_at h 5).1, (cell_at h 6).1, (cell_at h 7).1, (cell_at h 8).1, (cell_at h 9).1, (cell_at h 10).1, (cell_at h 11).1, (cell_at h 12).1, (cell_at h 13).1, (cell_at h 14).1, (cell_at h 15).1, (cell_at h 16).1, (cell_at h 17).1, (cell_at h 18).1, (cell_at h 19).1⟩
def AsIs (A A' : Ast) : Prop := (∀ k, A'.F k → A.F k) ∧ ∀ W, A.P W → A'.P W
def AsIsL : List Ast → List Ast → Prop
  | [], [] => True
  | A :: l, A' :: l' => AsIs A A' ∧ AsIsL l l'
  | _, _ => False
theorem asIs_mem : ∀ (l l' : List Ast), AsIsL l l' → ∀ X' ∈ l', ∃ X ∈ l, AsIs X X'
  | [], [], _, X', h => by cases h
  | [], _ :: _, h, _, _ => h.elim
  | _ :: _, [], h, _, _ => h.elim
  | A :: l, A' :: l', h, X', hX => by
    rcases List.mem_cons.1 hX with rfl | hX
    · exact ⟨A, List.mem_cons_self, h.1⟩
    · obtain ⟨X, h1, h2⟩ := asIs_mem l l' h.2 X' hX
      exact ⟨X, List.mem_cons_of_mem _ h1, h2⟩
theorem sep_low {B : Nat} {W : World} : ∀ (l l' : List Ast), AsIsL l l' → Sep B W l → Sep B W l'
  | [], [], _, h => h
  | [], _ :: _, h, _ => h.elim
  | _ :: _, [], h, _ => h.elim
  | A :: l, A' :: l', hA, h => by
    obtain ⟨⟨h1, h2⟩, h3, h4⟩ := sep_cons.1 h
    refine sep_cons.2 ⟨⟨hA.1.2 W h1, fun k hk => h2 k (hA.1.1 k hk)⟩, fun X' hX' k hk hk' => ?_, sep_low l l' hA.2 h4⟩
    obtain ⟨X, hX1, hX2⟩ := asIs_mem l l' hA.2 X' hX'
    exact h3 X hX1 k (hA.1.1 k hk) (hX2.1 k hk')
theorem asIs_refl : ∀ l : List Ast, AsIsL l l
  | [] => trivial
  | _ :: l => ⟨⟨fun _ h => h, fun _ h => h⟩, asIs_refl l⟩
theorem asIs_append (m : List Ast) : ∀ l l' : List Ast, AsIsL l l' → AsIsL (l ++ m) (l' ++ m)
  | [], [], _ => asIs_refl m
  | [], _ :: _, h => h.elim
  | _ :: _, [], h => h.elim
  | _ :: l, _ :: l', h => ⟨h.1, asIs_append m l l' h.2⟩
theorem sep_joinL {a0 : Nat} {W W' : World} {l l' l'' : List Ast} (h : Sep a0 W l) (hb : Below W.heap.size W W') (h' : Sep W.heap.size W' l') (hf : AsIsL l' l'') (hz : a0 ≤ W.heap.size) : Sep a0 W' (l'' ++ l) := sep_low _ _ (asIs_append l l' l'' hf) (sep_join h hb h' hz)
theorem asIs_frees {B B' : Nat} (h : B' ≤ B) (v : Value) (l : List (Int × Value)) (fs : List (Int × List Int)) : AsIs (freesA B v l fs) (freesA B' v l fs) := ⟨fun _ h => h, fun _ hp => ownF_down hp h⟩
theorem asIs_work {B B' : Nat} (h : B' ≤ B) (v : Value) (k : Wk) : AsIs (workA B v k) (workA B' v k) := ⟨fun _ h => h, fun _ hp => workOwn_down hp h⟩
theorem asIs_row {B B' e sz n : Nat} (h : B' ≤ B) (v : Value) (xs : List Value) : AsIs (rowA B e sz v n xs) (rowA B' e sz v n xs) := ⟨fun _ h => h, fun _ hp => own_down hp h⟩
theorem asIs_frL {B B' : Nat} (h : B' ≤ B) : ∀ (us : List (Value × List (Int × Value))) (rs : List (Int × Mt)), AsIsL (frL B us rs) (frL B' us rs)
  | [], _ => trivial
  | _ :: _, [] => trivial
  | x :: us, r :: rs => ⟨asIs_frees h x.1 x.2 r.2.fs, asIs_frL h us rs⟩
theorem asIs_rds {B B' : Nat} (h : B' ≤ B) (v : Value) (us : List (Value × List (Int × Value))) (rs : List (Int × Mt)) : AsIsL (rdsL B v us rs) (rdsL B' v us rs) := ⟨asIs_row h v _, asIs_frL h us rs⟩
theorem disk_downQ {w : World} {B B' : Nat} {v : Value} {ps : List ByteArray} {ls : List (Int × ByteArray)} (h : DiskOwn w B v ps ls) (hB : B' ≤ B) : DiskOwn w B' v ps ls := by
  obtain ⟨vp, vl, e, h1, h2⟩ := h
  exact ⟨vp, vl, e, own_down h1 hB, own_down h2 hB⟩
theorem eqDisk_one (v u : Value) (ps : List ByteArray) (ls : List (Int × ByteArray)) (hp : ps.length ≤ 1048576) (hl : ls.length ≤ 1048576) (w : World) (hd : DiskAt w v ps ls) (hu : DiskAt w u ps ls) :
    Calls Tryz.prog 50 #[v, u] w fun e w' => e = .returned (.bool true) ∧ Below w.heap.size w w' := by
  have h := eqDisk_any v u ps ps ls ls (by omega) (by omega) (by omega) (by omega) w hd hu
  rw [decide_eq_true rfl] at h
  exact h
set_option maxHeartbeats 8000000 in
set_option maxRecDepth 100000 in
theorem szStore_any (v : Value) (s : St) (hf : s.fits) (left : Nat) (hleft : left ≤ 1048576) (w : World) (hd : StAt w v s) :
    Calls Tryz.prog 15 #[v, .int .i64 (left : Int)] w fun e w' => e = .returned (.int .i64 (szOut left s.bulk)) ∧ Below w.heap.size w w' := by
  obtain ⟨vp, vl, vf, vR, vr, up, ul, uu, ug, uf, rfl, h1, h2, h3, h4⟩ := hd
  obtain ⟨mt, e1⟩ : ∃ n, n = s.m.tx := ⟨_, rfl⟩
  obtain ⟨mr, e2⟩ : ∃ n, n = s.m.root := ⟨_, rfl⟩
  obtain ⟨mn, e3⟩ : ∃ n, n = s.m.next := ⟨_, rfl⟩
  obtain ⟨tt, e4⟩ : ∃ n, n = s.tm.tx := ⟨_, rfl⟩
  obtain ⟨ur, e5⟩ : ∃ n, n = s.tm.root := ⟨_, rfl⟩
  obtain ⟨tn, e6⟩ : ∃ n, n = s.tm.next := ⟨_, rfl⟩
  obtain ⟨wn, e7⟩ : ∃ n, n = s.tk.next := ⟨_, rfl⟩
  obtain ⟨tr, e8⟩ : ∃ n, n = s.tr := ⟨_, rfl⟩
  obtain ⟨bw, e9⟩ : ∃ n, n = s.wr := ⟨_, rfl⟩
  obtain ⟨bf, e10⟩ : ∃ n, n = s.fl := ⟨_, rfl⟩
  have HL : Hid (mt = s.m.tx ∧ mr = s.m.root ∧ mn = s.m.next ∧ tt = s.tm.tx ∧ ur = s.tm.root ∧ tn = s.tm.next ∧ wn = s.tk.next ∧ tr = s.tr ∧ bw = s.wr ∧ bf = s.fl) := hide ⟨e1, e2, e3, e4, e5, e6, e7, e8, e9, e10⟩
  rw [← e1, ← e2, ← e3] at h2
  rw [← e4, ← e5, ← e6, ← e7, ← e8] at h4
  rw [← e1, ← e2, ← e3, ← e4, ← e5, ← e6, ← e7, ← e8, ← e9, ← e10]
  have HD := hide h1
  have HM := hide h2
  have HR := hide h3
  have HT := hide h4
  clear h1 h2 h3 h4 e1 e2 e3 e4 e5 e6 e7 e8 e9 e10
  obtain ⟨⟨f1, f2, f3, f4⟩, ⟨f5, f6⟩, f7, ⟨f8, f9⟩, f10⟩ := hf
  have HC0 := hide (fun (l : Nat) (h : l ≤ 1048576) wx hx => szDisk_any (.agg #[vp, vl]) s.ps s.ls f1 f2 f3 f4 l h wx hx)
  have HC1 := hide (fun (l : Nat) (h : l ≤ 1048576) wx hx => szMeta_any (.agg #[.int .i64 mt, .int .i64 mr, .int .i64 mn, vf]) s.m f5 f6 l h wx hx)
  have HC2 := hide (fun (l : Nat) (h : l ≤ 1048576) wx hx => szReaderS_any s.rs f7 vR l h wx hx)
  have HC3 := hide (fun (l : Nat) (h : l ≤ 1048576) wx hx => szTxn_any (.agg #[.int .i64 tt, .int .i64 ur, .int .i64 tn, vr, up, ul, .int .i64 wn, uu, ug, uf, .int .i64 tr]) s.tm s.tk tr f8 f9 f10 l h wx hx)
  obtain ⟨b0, hb0⟩ : ∃ n, n = bulkS s.ps + bulkP s.ls := ⟨_, rfl⟩
  obtain ⟨b1, hb1⟩ : ∃ n, n = bulkF s.m.fs := ⟨_, rfl⟩
  obtain ⟨b2, hb2⟩ : ∃ n, n = bulkR s.rs := ⟨_, rfl⟩
  obtain ⟨b3, hb3⟩ : ∃ n, n = bulkT s.tm s.tk := ⟨_, rfl⟩
  have hbk : s.bulk = b0 + b1 + b2 + b3 := by rw [hb0, hb1, hb2, hb3]; rfl
  rw [← hb0] at HC0
  rw [← hb1] at HC1
  rw [← hb2] at HC2
  rw [← hb3] at HC3
  rw [hbk]
  obtain ⟨a0, ha0⟩ : ∃ a, a = w.heap.size := ⟨_, rfl⟩
  have hS0 := sep_new (sep_nil w.heap.size w) (Obj.cells #[vp, vl, .int .i64 mt, .int .i64 mr, .int .i64 mn, vf, vR, .int .i64 tt, .int .i64 ur, .int .i64 tn, vr, up, ul, .int .i64 wn, uu, ug, uf, .int .i64 tr, .bool bw, .bool bf] 36) (Nat.le_refl _)
  obtain ⟨w0, hw0⟩ : ∃ w0, w0 = w.alloc (Obj.cells #[vp, vl, .int .i64 mt, .int .i64 mr, .int .i64 mn, vf, vR, .int .i64 tt, .int .i64 ur, .int .i64 tn, vr, up, ul, .int .i64 wn, uu, ug, uf, .int .i64 tr, .bool bw, .bool bf] 36) := ⟨_, rfl⟩
  rw [← hw0, ← ha0] at hS0
  have HS0 := hide hS0
  have HB0 : Hid (Below w.heap.size w w0) := hide (by rw [hw0]; exact (Below.refl w.heap.size w).alloc (Nat.le_refl _) _)
  have HA := hide ha0
  clear hS0 ha0 hb0 hb1 hb2 hb3 hbk f1 f2 f3 f4 f5 f6 f7 f8 f9 f10
  by_cases n0 : b0 ≤ left
  · have HK0 := hide (HC0.out left (by omega))
    rw [szOut_yes n0] at HK0
    obtain ⟨z0, hz0⟩ : ∃ n, n = left - b0 := ⟨_, rfl⟩
    rw [← hz0] at HK0
    by_cases n1 : b1 ≤ z0
    · have HK1 := hide (HC1.out z0 (by omega))
      rw [szOut_yes n1] at HK1
      obtain ⟨z1, hz1⟩ : ∃ n, n = z0 - b1 := ⟨_, rfl⟩
      rw [← hz1] at HK1
      by_cases n2 : b2 ≤ z1
      · have HK2 := hide (HC2.out z1 (by omega))
        rw [szOut_yes n2] at HK2
        obtain ⟨z2, hz2⟩ : ∃ n, n = z1 - b2 := ⟨_, rfl⟩
        rw [← hz2] at HK2
        by_cases n3 : b3 ≤ z2
        · have HK3 := hide (HC3.out z2 (by omega))
          rw [szOut_yes n3] at HK3
          obtain ⟨z3, hz3⟩ : ∃ n, n = z2 - b3 := ⟨_, rfl⟩
          rw [← hz3] at HK3
          have hez : szOut left (b0 + b1 + b2 + b3) = ((z3 : Nat) : Int) := by rw [szOut_yes (by omega)]; congr 1; omega
          rw [hez]
          clear hez hz0 n0 hz1 n1 hz2 n2 hz3 n3
          go_enter Tryz.func15, Tryz.ntmps15
          go_wp2_with fail
          rw [← hw0, ← HA.out]
          clear hw0
          refine (HK0.out _ (disk_below HD.out HB0.out)).mono ?_
          rintro e w1 ⟨rfl, hq⟩
          have HS1 := hide (sep_below HS0.out hq)
          have HB1 : Hid (Below w.heap.size w w1) := hide (HB0.out.trans (hq.mono HB0.out.size))
          clear hq
          obtain ⟨x0, x1, x2, x3, x4, x5, x6, x7, x8, x9, x10, x11, x12, x13, x14, x15, x16, x17, x18, x19⟩ := blk20c (sep_get HS1.out 0 rfl : w1.heap[a0]? = some (Obj.cells #[vp, vl, .int .i64 mt, .int .i64 mr, .int .i64 mn, vf, vR, .int .i64 tt, .int .i64 ur, .int .i64 tn, vr, up, ul, .int .i64 wn, uu, ug, uf, .int .i64 tr, .bool bw, .bool bf] 36))
          go_wp2_with fail
          clear x0 x1 x2 x3 x4 x5 x6 x7 x8 x9 x10 x11 x12 x13 x14 x15 x16 x17 x18 x19
          refine (HK1.out _ (meta_below HM.out HB1.out)).mono ?_
          rintro e w2 ⟨rfl, hq⟩
          have HS2 := hide (sep_below HS1.out hq)
          have HB2 : Hid (Below w.heap.size w w2) := hide (HB1.out.trans (hq.mono HB1.out.size))
          clear hq
          obtain ⟨x0, x1, x2, x3, x4, x5, x6, x7, x8, x9, x10, x11, x12, x13, x14, x15, x16, x17, x18, x19⟩ := blk20c (sep_get HS2.out 0 rfl : w2.heap[a0]? = some (Obj.cells #[vp, vl, .int .i64 mt, .int .i64 mr, .int .i64 mn, vf, vR, .int .i64 tt, .int .i64 ur, .int .i64 tn, vr, up, ul, .int .i64 wn, uu, ug, uf, .int .i64 tr, .bool bw, .bool bf] 36))
          go_wp2_with fail
          clear x0 x1 x2 x3 x4 x5 x6 x7 x8 x9 x10 x11 x12 x13 x14 x15 x16 x17 x18 x19
          refine (HK2.out _ (rds_below HR.out HB2.out)).mono ?_
          rintro e w3 ⟨rfl, hq⟩
          have HS3 := hide (sep_below HS2.out hq)
          have HB3 : Hid (Below w.heap.size w w3) := hide (HB2.out.trans (hq.mono HB2.out.size))
          clear hq
          obtain ⟨x0, x1, x2, x3, x4, x5, x6, x7, x8, x9, x10, x11, x12, x13, x14, x15, x16, x17, x18, x19⟩ := blk20c (sep_get HS3.out 0 rfl : w3.heap[a0]? = some (Obj.cells #[vp, vl, .int .i64 mt, .int .i64 mr, .int .i64 mn, vf, vR, .int .i64 tt, .int .i64 ur, .int .i64 tn, vr, up, ul, .int .i64 wn, uu, ug, uf, .int .i64 tr, .bool bw, .bool bf] 36))
          go_wp2_with fail
          clear x0 x1 x2 x3 x4 x5 x6 x7 x8 x9 x10 x11 x12 x13 x14 x15 x16 x17 x18 x19
          refine (HK3.out _ (txn_below HT.out HB3.out)).mono ?_
          rintro e w4 ⟨rfl, hq⟩
          have HS4 := hide (sep_below HS3.out hq)
          have HB4 : Hid (Below w.heap.size w w4) := hide (HB3.out.trans (hq.mono HB3.out.size))
          clear hq
          go_wp2_with fail
          go_ret
          exact ⟨rfl, HB4.out⟩
        · have HK3 := hide (HC3.out z2 (by omega))
          rw [szOut_no (by omega)] at HK3
          rw [szOut_no (by omega)]
          clear hz0 hz1 hz2 n0 n1 n2 n3
          go_enter Tryz.func15, Tryz.ntmps15
          go_wp2_with fail
          rw [← hw0, ← HA.out]
          clear hw0
          refine (HK0.out _ (disk_below HD.out HB0.out)).mono ?_
          rintro e w1 ⟨rfl, hq⟩
          have HS1 := hide (sep_below HS0.out hq)
          have HB1 : Hid (Below w.heap.size w w1) := hide (HB0.out.trans (hq.mono HB0.out.size))
          clear hq
          obtain ⟨x0, x1, x2, x3, x4, x5, x6, x7, x8, x9, x10, x11, x12, x13, x14, x15, x16, x17, x18, x19⟩ := blk20c (sep_get HS1.out 0 rfl : w1.heap[a0]? = some (Obj.cells #[vp, vl, .int .i64 mt, .int .i64 mr, .int .i64 mn, vf, vR, .int .i64 tt, .int .i64 ur, .int .i64 tn, vr, up, ul, .int .i64 wn, uu, ug, uf, .int .i64 tr, .bool bw, .bool bf] 36))
          go_wp2_with fail
          clear x0 x1 x2 x3 x4 x5 x6 x7 x8 x9 x10 x11 x12 x13 x14 x15 x16 x17 x18 x19
          refine (HK1.out _ (meta_below HM.out HB1.out)).mono ?_
          rintro e w2 ⟨rfl, hq⟩
          have HS2 := hide (sep_below HS1.out hq)
          have HB2 : Hid (Below w.heap.size w w2) := hide (HB1.out.trans (hq.mono HB1.out.size))
          clear hq
          obtain ⟨x0, x1, x2, x3, x4, x5, x6, x7, x8, x9, x10, x11, x12, x13, x14, x15, x16, x17, x18, x19⟩ := blk20c (sep_get HS2.out 0 rfl : w2.heap[a0]? = some (Obj.cells #[vp, vl, .int .i64 mt, .int .i64 mr, .int .i64 mn, vf, vR, .int .i64 tt, .int .i64 ur, .int .i64 tn, vr, up, ul, .int .i64 wn, uu, ug, uf, .int .i64 tr, .bool bw, .bool bf] 36))
          go_wp2_with fail
          clear x0 x1 x2 x3 x4 x5 x6 x7 x8 x9 x10 x11 x12 x13 x14 x15 x16 x17 x18 x19
          refine (HK2.out _ (rds_below HR.out HB2.out)).mono ?_
          rintro e w3 ⟨rfl, hq⟩
          have HS3 := hide (sep_below HS2.out hq)
          have HB3 : Hid (Below w.heap.size w w3) := hide (HB2.out.trans (hq.mono HB2.out.size))
          clear hq
          obtain ⟨x0, x1, x2, x3, x4, x5, x6, x7, x8, x9, x10, x11, x12, x13, x14, x15, x16, x17, x18, x19⟩ := blk20c (sep_get HS3.out 0 rfl : w3.heap[a0]? = some (Obj.cells #[vp, vl, .int .i64 mt, .int .i64 mr, .int .i64 mn, vf, vR, .int .i64 tt, .int .i64 ur, .int .i64 tn, vr, up, ul, .int .i64 wn, uu, ug, uf, .int .i64 tr, .bool bw, .bool bf] 36))
          go_wp2_with fail
          clear x0 x1 x2 x3 x4 x5 x6 x7 x8 x9 x10 x11 x12 x13 x14 x15 x16 x17 x18 x19
          refine (HK3.out _ (txn_below HT.out HB3.out)).mono ?_
          rintro e w4 ⟨rfl, hq⟩
          have HS4 := hide (sep_below HS3.out hq)
          have HB4 : Hid (Below w.heap.size w w4) := hide (HB3.out.trans (hq.mono HB3.out.size))
          clear hq
          go_wp2_with fail
          go_ret
          exact ⟨rfl, HB4.out⟩
      · have HK2 := hide (HC2.out z1 (by omega))
        rw [szOut_no (by omega)] at HK2
        rw [szOut_no (by omega)]
        clear hz0 hz1 n0 n1 n2
        go_enter Tryz.func15, Tryz.ntmps15
        go_wp2_with fail
        rw [← hw0, ← HA.out]
        clear hw0
        refine (HK0.out _ (disk_below HD.out HB0.out)).mono ?_
        rintro e w1 ⟨rfl, hq⟩
        have HS1 := hide (sep_below HS0.out hq)
        have HB1 : Hid (Below w.heap.size w w1) := hide (HB0.out.trans (hq.mono HB0.out.size))
        clear hq
        obtain ⟨x0, x1, x2, x3, x4, x5, x6, x7, x8, x9, x10, x11, x12, x13, x14, x15, x16, x17, x18, x19⟩ := blk20c (sep_get HS1.out 0 rfl : w1.heap[a0]? = some (Obj.cells #[vp, vl, .int .i64 mt, .int .i64 mr, .int .i64 mn, vf, vR, .int .i64 tt, .int .i64 ur, .int .i64 tn, vr, up, ul, .int .i64 wn, uu, ug, uf, .int .i64 tr, .bool bw, .bool bf] 36))
        go_wp2_with fail
        clear x0 x1 x2 x3 x4 x5 x6 x7 x8 x9 x10 x11 x12 x13 x14 x15 x16 x17 x18 x19
        refine (HK1.out _ (meta_below HM.out HB1.out)).mono ?_
        rintro e w2 ⟨rfl, hq⟩
        have HS2 := hide (sep_below HS1.out hq)
        have HB2 : Hid (Below w.heap.size w w2) := hide (HB1.out.trans (hq.mono HB1.out.size))
        clear hq
        obtain ⟨x0, x1, x2, x3, x4, x5, x6, x7, x8, x9, x10, x11, x12, x13, x14, x15, x16, x17, x18, x19⟩ := blk20c (sep_get HS2.out 0 rfl : w2.heap[a0]? = some (Obj.cells #[vp, vl, .int .i64 mt, .int .i64 mr, .int .i64 mn, vf, vR, .int .i64 tt, .int .i64 ur, .int .i64 tn, vr, up, ul, .int .i64 wn, uu, ug, uf, .int .i64 tr, .bool bw, .bool bf] 36))
        go_wp2_with fail
        clear x0 x1 x2 x3 x4 x5 x6 x7 x8 x9 x10 x11 x12 x13 x14 x15 x16 x17 x18 x19
        refine (HK2.out _ (rds_below HR.out HB2.out)).mono ?_
        rintro e w3 ⟨rfl, hq⟩
        have HS3 := hide (sep_below HS2.out hq)
        have HB3 : Hid (Below w.heap.size w w3) := hide (HB2.out.trans (hq.mono HB2.out.size))
        clear hq
        go_wp2_with fail
        go_ret
        exact ⟨rfl, HB3.out⟩
    · have HK1 := hide (HC1.out z0 (by omega))
      rw [szOut_no (by omega)] at HK1
      rw [szOut_no (by omega)]
      clear hz0 n0 n1
      go_enter Tryz.func15, Tryz.ntmps15
      go_wp2_with fail
      rw [← hw0, ← HA.out]
      clear hw0
      refine (HK0.out _ (disk_below HD.out HB0.out)).mono ?_
      rintro e w1 ⟨rfl, hq⟩
      have HS1 := hide (sep_below HS0.out hq)
      have HB1 : Hid (Below w.heap.size w w1) := hide (HB0.out.trans (hq.mono HB0.out.size))
      clear hq
      obtain ⟨x0, x1, x2, x3, x4, x5, x6, x7, x8, x9, x10, x11, x12, x13, x14, x15, x16, x17, x18, x19⟩ := blk20c (sep_get HS1.out 0 rfl : w1.heap[a0]? = some (Obj.cells #[vp, vl, .int .i64 mt, .int .i64 mr, .int .i64 mn, vf, vR, .int .i64 tt, .int .i64 ur, .int .i64 tn, vr, up, ul, .int .i64 wn, uu, ug, uf, .int .i64 tr, .bool bw, .bool bf] 36))
      go_wp2_with fail
      clear x0 x1 x2 x3 x4 x5 x6 x7 x8 x9 x10 x11 x12 x13 x14 x15 x16 x17 x18 x19
      refine (HK1.out _ (meta_below HM.out HB1.out)).mono ?_
      rintro e w2 ⟨rfl, hq⟩
      have HS2 := hide (sep_below HS1.out hq)
      have HB2 : Hid (Below w.heap.size w w2) := hide (HB1.out.trans (hq.mono HB1.out.size))
      clear hq
      go_wp2_with fail
      go_ret
      exact ⟨rfl, HB2.out⟩
  · have HK0 := hide (HC0.out left (by omega))
    rw [szOut_no (by omega)] at HK0
    rw [szOut_no (by omega)]
    clear n0
    go_enter Tryz.func15, Tryz.ntmps15
    go_wp2_with fail
    rw [← hw0, ← HA.out]
    clear hw0
    refine (HK0.out _ (disk_below HD.out HB0.out)).mono ?_
    rintro e w1 ⟨rfl, hq⟩
    have HS1 := hide (sep_below HS0.out hq)
    have HB1 : Hid (Below w.heap.size w w1) := hide (HB0.out.trans (hq.mono HB0.out.size))
    clear hq
    go_wp2_with fail
    go_ret
    exact ⟨rfl, HB1.out⟩
set_option maxHeartbeats 8000000 in
set_option maxRecDepth 100000 in
theorem eqStore_same (v u : Value) (s : St) (hs : s.small) (w : World) (hd : StAt w v s) (hu : StAt w u s) :
    Calls Tryz.prog 28 #[v, u] w fun e w' => e = .returned (.bool true) ∧ Below w.heap.size w w' := by
  obtain ⟨vp, vl, vf, vR, vr, up, ul, uu, ug, uf, rfl, h1, h2, h3, h4⟩ := hd
  obtain ⟨mt, e1⟩ : ∃ n, n = s.m.tx := ⟨_, rfl⟩
  obtain ⟨mr, e2⟩ : ∃ n, n = s.m.root := ⟨_, rfl⟩
  obtain ⟨mn, e3⟩ : ∃ n, n = s.m.next := ⟨_, rfl⟩
  obtain ⟨tt, e4⟩ : ∃ n, n = s.tm.tx := ⟨_, rfl⟩
  obtain ⟨ur, e5⟩ : ∃ n, n = s.tm.root := ⟨_, rfl⟩
  obtain ⟨tn, e6⟩ : ∃ n, n = s.tm.next := ⟨_, rfl⟩
  obtain ⟨wn, e7⟩ : ∃ n, n = s.tk.next := ⟨_, rfl⟩
  obtain ⟨tr, e8⟩ : ∃ n, n = s.tr := ⟨_, rfl⟩
  obtain ⟨bw, e9⟩ : ∃ n, n = s.wr := ⟨_, rfl⟩
  obtain ⟨bf, e10⟩ : ∃ n, n = s.fl := ⟨_, rfl⟩
  have HL : Hid (mt = s.m.tx ∧ mr = s.m.root ∧ mn = s.m.next ∧ tt = s.tm.tx ∧ ur = s.tm.root ∧ tn = s.tm.next ∧ wn = s.tk.next ∧ tr = s.tr ∧ bw = s.wr ∧ bf = s.fl) := hide ⟨e1, e2, e3, e4, e5, e6, e7, e8, e9, e10⟩
  rw [← e1, ← e2, ← e3] at h2
  rw [← e4, ← e5, ← e6, ← e7, ← e8] at h4
  rw [← e1, ← e2, ← e3, ← e4, ← e5, ← e6, ← e7, ← e8, ← e9, ← e10]
  have HD := hide h1
  have HM := hide h2
  have HR := hide h3
  have HT := hide h4
  clear h1 h2 h3 h4 e1 e2 e3 e4 e5 e6 e7 e8 e9 e10
  obtain ⟨xp, xl, xf, xR, xr, yp, yl, yu, yg, yf, rfl, h1, h2, h3, h4⟩ := hu
  rw [← HL.out.1, ← HL.out.2.1, ← HL.out.2.2.1] at h2
  rw [← HL.out.2.2.2.1, ← HL.out.2.2.2.2.1, ← HL.out.2.2.2.2.2.1, ← HL.out.2.2.2.2.2.2.1, ← HL.out.2.2.2.2.2.2.2.1] at h4
  rw [← HL.out.1, ← HL.out.2.1, ← HL.out.2.2.1, ← HL.out.2.2.2.1, ← HL.out.2.2.2.2.1, ← HL.out.2.2.2.2.2.1, ← HL.out.2.2.2.2.2.2.1, ← HL.out.2.2.2.2.2.2.2.1, ← HL.out.2.2.2.2.2.2.2.2.1, ← HL.out.2.2.2.2.2.2.2.2.2]
  have HD2 := hide h1
  have HM2 := hide h2
  have HR2 := hide h3
  have HT2 := hide h4
  obtain ⟨f1, f2, f3, f4, f5⟩ := hs
  have HC0 := hide (fun a b wx h h' => eqDisk_one a b s.ps s.ls f1.1 f1.2.2.1 wx h h')
  have HC1 := hide (fun a b wx h h' => eqMeta_same a b s.m f2.1 f2.2 wx h h')
  have HC2 := hide (fun a b wx h h' => eqReaderS_same s.rs f3.1 f3.2 a b wx h h')
  have HC3 := hide (fun a b wx h h' => eqTxn_same a b s.tm s.tk tr f4.1 f4.2 (bulkW_in f5) wx h h')
  clear h1 h2 h3 h4 f1 f2 f3 f4 f5
  obtain ⟨a0, ha0⟩ : ∃ a, a = w.heap.size := ⟨_, rfl⟩
  have hS0 := sep_new (sep_new (sep_nil w.heap.size w) (Obj.cells #[vp, vl, .int .i64 mt, .int .i64 mr, .int .i64 mn, vf, vR, .int .i64 tt, .int .i64 ur, .int .i64 tn, vr, up, ul, .int .i64 wn, uu, ug, uf, .int .i64 tr, .bool bw, .bool bf] 55) (Nat.le_refl _)) (Obj.cells #[xp, xl, .int .i64 mt, .int .i64 mr, .int .i64 mn, xf, xR, .int .i64 tt, .int .i64 ur, .int .i64 tn, xr, yp, yl, .int .i64 wn, yu, yg, yf, .int .i64 tr, .bool bw, .bool bf] 55) (by simp)
  obtain ⟨w0, hw0⟩ : ∃ w0, w0 = (w.alloc (Obj.cells #[vp, vl, .int .i64 mt, .int .i64 mr, .int .i64 mn, vf, vR, .int .i64 tt, .int .i64 ur, .int .i64 tn, vr, up, ul, .int .i64 wn, uu, ug, uf, .int .i64 tr, .bool bw, .bool bf] 55)).alloc (Obj.cells #[xp, xl, .int .i64 mt, .int .i64 mr, .int .i64 mn, xf, xR, .int .i64 tt, .int .i64 ur, .int .i64 tn, xr, yp, yl, .int .i64 wn, yu, yg, yf, .int .i64 tr, .bool bw, .bool bf] 55) := ⟨_, rfl⟩
  rw [World.size_alloc, ← hw0, ← ha0] at hS0
  have HS0 := hide hS0
  have HB0 : Hid (Below w.heap.size w w0) := hide (by rw [hw0]; exact ((Below.refl w.heap.size w).alloc (Nat.le_refl _) _).alloc (by simp) _)
  have HA := hide ha0
  have dw : (bw != bw) = false := by cases bw <;> rfl
  have df : (bf != bf) = false := by cases bf <;> rfl
  clear hS0 ha0
  go_enter Tryz.func28, Tryz.ntmps28
  go_wp2_with fail
  rw [← hw0, ← HA.out]
  clear hw0
  refine (HC0.out _ _ _ (disk_below HD.out HB0.out) (disk_below HD2.out HB0.out)).mono ?_
  rintro e w1 ⟨rfl, hq⟩
  have HS1 := hide (sep_below HS0.out hq)
  have HB1 : Hid (Below w.heap.size w w1) := hide (HB0.out.trans (hq.mono HB0.out.size))
  clear hq
  obtain ⟨x0, x1, x2, x3, x4, x5, x6, x7, x8, x9, x10, x11, x12, x13, x14, x15, x16, x17, x18, x19⟩ := blk20c (sep_get HS1.out 1 rfl : w1.heap[a0]? = some (Obj.cells #[vp, vl, .int .i64 mt, .int .i64 mr, .int .i64 mn, vf, vR, .int .i64 tt, .int .i64 ur, .int .i64 tn, vr, up, ul, .int .i64 wn, uu, ug, uf, .int .i64 tr, .bool bw, .bool bf] 55))
  obtain ⟨y0, y1, y2, y3, y4, y5, y6, y7, y8, y9, y10, y11, y12, y13, y14, y15, y16, y17, y18, y19⟩ := blk20c (sep_get HS1.out 0 rfl : w1.heap[a0 + 1]? = some (Obj.cells #[xp, xl, .int .i64 mt, .int .i64 mr, .int .i64 mn, xf, xR, .int .i64 tt, .int .i64 ur, .int .i64 tn, xr, yp, yl, .int .i64 wn, yu, yg, yf, .int .i64 tr, .bool bw, .bool bf] 55))
  go_wp2_with fail
  clear x0 x1 x2 x3 x4 x5 x6 x7 x8 x9 x10 x11 x12 x13 x14 x15 x16 x17 x18 x19 y0 y1 y2 y3 y4 y5 y6 y7 y8 y9 y10 y11 y12 y13 y14 y15 y16 y17 y18 y19
  refine (HC1.out _ _ _ (meta_below HM.out HB1.out) (meta_below HM2.out HB1.out)).mono ?_
  rintro e w2 ⟨rfl, hq⟩
  have HS2 := hide (sep_below HS1.out hq)
  have HB2 : Hid (Below w.heap.size w w2) := hide (HB1.out.trans (hq.mono HB1.out.size))
  clear hq
  obtain ⟨x0, x1, x2, x3, x4, x5, x6, x7, x8, x9, x10, x11, x12, x13, x14, x15, x16, x17, x18, x19⟩ := blk20c (sep_get HS2.out 1 rfl : w2.heap[a0]? = some (Obj.cells #[vp, vl, .int .i64 mt, .int .i64 mr, .int .i64 mn, vf, vR, .int .i64 tt, .int .i64 ur, .int .i64 tn, vr, up, ul, .int .i64 wn, uu, ug, uf, .int .i64 tr, .bool bw, .bool bf] 55))
  obtain ⟨y0, y1, y2, y3, y4, y5, y6, y7, y8, y9, y10, y11, y12, y13, y14, y15, y16, y17, y18, y19⟩ := blk20c (sep_get HS2.out 0 rfl : w2.heap[a0 + 1]? = some (Obj.cells #[xp, xl, .int .i64 mt, .int .i64 mr, .int .i64 mn, xf, xR, .int .i64 tt, .int .i64 ur, .int .i64 tn, xr, yp, yl, .int .i64 wn, yu, yg, yf, .int .i64 tr, .bool bw, .bool bf] 55))
  go_wp2_with fail
  clear x0 x1 x2 x3 x4 x5 x6 x7 x8 x9 x10 x11 x12 x13 x14 x15 x16 x17 x18 x19 y0 y1 y2 y3 y4 y5 y6 y7 y8 y9 y10 y11 y12 y13 y14 y15 y16 y17 y18 y19
  refine (HC2.out _ _ _ (rds_below HR.out HB2.out) (rds_below HR2.out HB2.out)).mono ?_
  rintro e w3 ⟨rfl, hq⟩
  have HS3 := hide (sep_below HS2.out hq)
  have HB3 : Hid (Below w.heap.size w w3) := hide (HB2.out.trans (hq.mono HB2.out.size))
  clear hq
  obtain ⟨x0, x1, x2, x3, x4, x5, x6, x7, x8, x9, x10, x11, x12, x13, x14, x15, x16, x17, x18, x19⟩ := blk20c (sep_get HS3.out 1 rfl : w3.heap[a0]? = some (Obj.cells #[vp, vl, .int .i64 mt, .int .i64 mr, .int .i64 mn, vf, vR, .int .i64 tt, .int .i64 ur, .int .i64 tn, vr, up, ul, .int .i64 wn, uu, ug, uf, .int .i64 tr, .bool bw, .bool bf] 55))
  obtain ⟨y0, y1, y2, y3, y4, y5, y6, y7, y8, y9, y10, y11, y12, y13, y14, y15, y16, y17, y18, y19⟩ := blk20c (sep_get HS3.out 0 rfl : w3.heap[a0 + 1]? = some (Obj.cells #[xp, xl, .int .i64 mt, .int .i64 mr, .int .i64 mn, xf, xR, .int .i64 tt, .int .i64 ur, .int .i64 tn, xr, yp, yl, .int .i64 wn, yu, yg, yf, .int .i64 tr, .bool bw, .bool bf] 55))
  go_wp2_with fail
  clear x0 x1 x2 x3 x4 x5 x6 x7 x8 x9 x10 x11 x12 x13 x14 x15 x16 x17 x18 x19 y0 y1 y2 y3 y4 y5 y6 y7 y8 y9 y10 y11 y12 y13 y14 y15 y16 y17 y18 y19
  refine (HC3.out _ _ _ (txn_below HT.out HB3.out) (txn_below HT2.out HB3.out)).mono ?_
  rintro e w4 ⟨rfl, hq⟩
  have HS4 := hide (sep_below HS3.out hq)
  have HB4 : Hid (Below w.heap.size w w4) := hide (HB3.out.trans (hq.mono HB3.out.size))
  clear hq
  obtain ⟨x0, x1, x2, x3, x4, x5, x6, x7, x8, x9, x10, x11, x12, x13, x14, x15, x16, x17, x18, x19⟩ := blk20c (sep_get HS4.out 1 rfl : w4.heap[a0]? = some (Obj.cells #[vp, vl, .int .i64 mt, .int .i64 mr, .int .i64 mn, vf, vR, .int .i64 tt, .int .i64 ur, .int .i64 tn, vr, up, ul, .int .i64 wn, uu, ug, uf, .int .i64 tr, .bool bw, .bool bf] 55))
  obtain ⟨y0, y1, y2, y3, y4, y5, y6, y7, y8, y9, y10, y11, y12, y13, y14, y15, y16, y17, y18, y19⟩ := blk20c (sep_get HS4.out 0 rfl : w4.heap[a0 + 1]? = some (Obj.cells #[xp, xl, .int .i64 mt, .int .i64 mr, .int .i64 mn, xf, xR, .int .i64 tt, .int .i64 ur, .int .i64 tn, xr, yp, yl, .int .i64 wn, yu, yg, yf, .int .i64 tr, .bool bw, .bool bf] 55))
  go_wp2_with fail
  go_ret
  exact ⟨rfl, HB4.out⟩
def stL (B : Nat) (s : St) (u1 u2 u3 u4 u5 u6 u7 u8 u9 u10 : Value) (l1 l2 : List (Int × Value)) (us : List (Value × List (Int × Value))) : List Ast := [diskA B (.agg #[u1, u2]) s.ps s.ls, freesA B u3 l1 s.m.fs, packA B (rdsL B u4 us s.rs), freesA B u5 l2 s.tm.fs, workA B (.agg #[u6, u7, .int .i64 s.tk.next, u8, u9, u10]) s.tk]
def StOwn (w : World) (B : Nat) (v : Value) (s : St) : Prop := ∃ p1 q1 p2 q2 p3 q3 p4 q4 p5 q5 p6 q6 p7 q7 p8 q8 p9 q9 p10 q10 l1 l2 us, us.length = s.rs.length ∧
  v = .agg #[.slice p1 s.ps.length q1, .slice p2 s.ls.length q2, .int .i64 s.m.tx, .int .i64 s.m.root, .int .i64 s.m.next, .slice p3 s.m.fs.length q3, .slice p4 s.rs.length q4, .int .i64 s.tm.tx, .int .i64 s.tm.root, .int .i64 s.tm.next, .slice p5 s.tm.fs.length q5, .slice p6 s.tk.ps.length q6, .slice p7 s.tk.ls.length q7, .int .i64 s.tk.next, .slice p8 s.tk.us.length q8, .slice p9 s.tk.gs.length q9, .slice p10 s.tk.fs.length q10, .int .i64 s.tr, .bool s.wr, .bool s.fl] ∧
  Sep B w (stL B s (.slice p1 s.ps.length q1) (.slice p2 s.ls.length q2) (.slice p3 s.m.fs.length q3) (.slice p4 s.rs.length q4) (.slice p5 s.tm.fs.length q5) (.slice p6 s.tk.ps.length q6) (.slice p7 s.tk.ls.length q7) (.slice p8 s.tk.us.length q8) (.slice p9 s.tk.gs.length q9) (.slice p10 s.tk.fs.length q10) l1 l2 us)
theorem st_of_own {w : World} {B : Nat} {v : Value} {s : St} (h : StOwn w B v s) : StAt w v s := by
  obtain ⟨p1, q1, p2, q2, p3, q3, p4, q4, p5, q5, p6, q6, p7, q7, p8, q8, p9, q9, p10, q10, l1, l2, us, hu, e, hs⟩ := h
  exact ⟨_, _, _, _, _, _, _, _, _, _, e, disk_of_own (sep_get hs 0 rfl), ⟨_, rfl, frees_of_own (sep_get hs 1 rfl)⟩, rds_of_own hu (sep_get hs 2 rfl), ⟨_, _, _, _, _, _, rfl, ⟨_, rfl, frees_of_own (sep_get hs 3 rfl)⟩, work_of_own (sep_get hs 4 rfl)⟩⟩
open Go.RowKit
def overL : List Value → Nat → List Value → List Value
  | cs, _, [] => cs
  | cs, o, v :: r => overL (cs.set o v) (o + 1) r
def over : Array Value → Nat → List Value → Array Value
  | cs, _, [] => cs
  | cs, o, v :: r => over (cs.setIfInBounds o v) (o + 1) r
theorem over_list : ∀ (vs : List Value) (cs : Array Value) (o : Nat), (over cs o vs).toList = overL cs.toList o vs
  | [], _, _ => rfl
  | v :: r, cs, o => by
    rw [over, overL, over_list r, Array.toList_setIfInBounds]
theorem overL_all : ∀ (vs pre cs : List Value), vs.length = cs.length → overL (pre ++ cs) pre.length vs = pre ++ vs
  | [], pre, cs, h => by
    rw [List.eq_nil_of_length_eq_zero h.symm]
    rfl
  | v :: r, pre, [], h => by simp at h
  | v :: r, pre, c :: cs, h => by
    have ih := overL_all r (pre ++ [v]) cs (by simpa using h)
    rw [overL, List.set_append_right _ _ (Nat.le_refl _), Nat.sub_self, List.set_cons_zero]
    rw [List.length_append, List.length_singleton, List.append_assoc, List.append_assoc] at ih
    exact ih
theorem set_same {α : Type} {l : List α} {i : Nat} {x : α} (h : l[i]? = some x) : l.set i x = l := by
  obtain ⟨hi, rfl⟩ := List.getElem?_eq_some_iff.1 h
  exact List.set_getElem_self hi
theorem sep_cells {B : Nat} : ∀ (vs : List Value) (off : Nat) {W : World} {l : List Ast} (_ : Sep B W l) (i : Nat) {g : Nat} {cs : Array Value} {T : TypeId} (_ : l[i]? = some (cellA g (.cells cs T (0, 0)))), Sep B (W.setCells g off vs) (l.set i (cellA g (.cells (over cs off vs) T (0, 0))))
  | [], off, W, l, h, i, g, cs, T, hi => by
    rw [show over cs off [] = cs from rfl, set_same hi]
    exact h
  | v :: r, off, W, l, h, i, g, cs, T, hi => by
    have hlt : i < l.length := (List.getElem?_eq_some_iff.1 hi).1
    have h2 := sep_cells r (off + 1) (sep_store h i hi off v) i (g := g) (cs := cs.setIfInBounds off v) (T := T) (by rw [List.getElem?_set_self hlt])
    rw [List.set_set] at h2
    exact h2
theorem sep_cellsTo {B : Nat} {W : World} {l : List Ast} (h : Sep B W l) (i : Nat) {g : Nat} {cs : Array Value} {T : TypeId} (hi : l[i]? = some (cellA g (.cells cs T (0, 0)))) (off : Nat) (vs : List Value) (cs' : Array Value) (he : overL cs.toList off vs = cs'.toList) : Sep B (W.setCells g off vs) (l.set i (cellA g (.cells cs' T (0, 0)))) := by
  have e : over cs off vs = cs' := Array.toList_inj.1 (by rw [over_list]; exact he)
  subst e
  exact sep_cells vs off h i hi
theorem sep_cellsAll {B : Nat} {W : World} {l : List Ast} (h : Sep B W l) (i : Nat) {g : Nat} {cs : Array Value} {T : TypeId} (hi : l[i]? = some (cellA g (.cells cs T (0, 0)))) (cs' : Array Value) (hn : cs'.size = cs.size) : Sep B (W.setCells g 0 cs'.toList) (l.set i (cellA g (.cells cs' T (0, 0)))) :=
  sep_cellsTo h i hi 0 cs'.toList cs' (overL_all cs'.toList [] cs.toList (by simpa using hn))
theorem below_cells {B : Nat} {W0 : World} {g : Nat} (hg : B ≤ g) : ∀ (vs : List Value) (o : Nat) (W : World), Below B W0 W → Below B W0 (W.setCells g o vs)
  | [], _, _, h => h
  | v :: r, o, _, h => below_cells hg r (o + 1) _ (h.setCell (p := ⟨g, o, none⟩) hg v)
theorem size_cells (g : Nat) : ∀ (vs : List Value) (o : Nat) (W : World), (W.setCells g o vs).heap.size = W.heap.size
  | [], _, _ => rfl
  | v :: r, o, W => by rw [World.setCells, size_cells g r (o + 1)]; simp
theorem range_of {W : World} {g : Nat} {cs : Array Value} {T : TypeId} (h : W.heap[g]? = some (.cells cs T (0, 0))) (o n : Nat) : W.rangeAt g o ((cs.toList.drop o).take n) := fun j v hv => by
  rw [(cell_at h (o + j)).1]
  rw [List.getElem?_take] at hv
  split at hv
  · rw [List.getElem?_drop] at hv
    simpa using hv
  · cases hv
theorem there_of {W : World} {g : Nat} {cs : Array Value} {T : TypeId} (h : W.heap[g]? = some (.cells cs T (0, 0))) (o n : Nat) (hn : o + n ≤ cs.size) : W.there g o n := fun j hj => by
  refine ⟨?_, (cell_at h (o + j)).2⟩
  rw [(cell_at h (o + j)).1, Array.getElem?_eq_getElem (by omega)]
  rfl
theorem wpList_loadL {P : Program} {ops : Array Oper} {rest : List Oper} {op : Oper} {a : Act} {w : World} {Q : Exit → Act → World → Prop} (hgd : op.guard = none) (ty : TypeId) (x : Operand) (ho : op.op = .load ty x)
    (b o : Nat) (hx : a.eval x = .pointer (some ⟨b, o, none⟩)) (cs : Array Value) (hc : w.rangeAt b o cs.toList) (d : TypeDesc)
    (hu : P.underlying ty = some d) (hd : d.isRow = true) (hi : (P.info? ty).map (·.size) = some cs.size)
    (h : wpList P ops Q rest (a.put op.dst (.agg cs)) w) : wpList P ops Q (op :: rest) a w :=
  wpList_load_mid hgd ty x ho b o hx cs.toList d hc hu hd (by rw [hi, Array.length_toList]) (by rw [Array.toArray_toList]; exact h)
theorem wpList_storeL {P : Program} {ops : Array Oper} {rest : List Oper} {op : Oper} {a : Act} {w w' : World} {Q : Exit → Act → World → Prop} (hgd : op.guard = none) (ty : TypeId) (x y : Operand) (ho : op.op = .store ty x y)
    (b o : Nat) (cs : Array Value) (hx : a.eval x = .pointer (some ⟨b, o, none⟩)) (hy : a.eval y = .agg cs)
    (ht : w.there b o cs.size) (hi : (P.info? ty).map (·.size) = some cs.size) (h1 : cs.toList.all (·.oneCell') = true) (hw : w.setCells b o cs.toList = w')
    (h : wpList P ops Q rest (a.put op.dst undef) w') : wpList P ops Q (op :: rest) a w := by
  subst hw
  exact wpList_store_mid hgd ty x y ho b o cs hx hy ht hi (by rw [← Array.all_toList]; exact h1) h
theorem yields_loadL {P : Program} {ops : Array Oper} {S : World → Prop} {op : Oper} {a : Act} (hw : Region.wanted op (yielded ops a.tmps) = true) (ty : TypeId) (x : Operand) (ho : op.op = .load ty x)
    (b o : Nat) (hx : a.eval x = .pointer (some ⟨b, o, none⟩)) (cs : Array Value) (d : TypeDesc) (hS : ∀ w, S w → w.rangeAt b o cs.toList)
    (hu : P.underlying ty = some d) (hd : d.isRow = true) (hi : (P.info? ty).map (·.size) = some cs.size) : YieldsIf P ops S op (.agg cs) a := by
  have h := yieldsIf_load_mid (ops := ops) hw ty x ho b o hx cs.toList d hS hu hd (by rw [hi, Array.length_toList])
  rw [Array.toArray_toList] at h
  exact h
theorem range_all {W : World} {g : Nat} {cs : Array Value} {T : TypeId} (h : W.heap[g]? = some (.cells cs T (0, 0))) : W.rangeAt g 0 cs.toList := fun j v hv => by
  rw [(cell_at h (0 + j)).1, Nat.zero_add]
  simpa using hv
theorem run_agg {P : Program} {w : World} {b : Nat} {ty : TypeId} {cs : Array Value} {d : TypeDesc} (hc : w.rangeAt b 0 cs.toList) (hu : P.underlying ty = some d) (hd : d.isRow = true) (hi : (P.info? ty).map (·.size) = some cs.size) : (loadVar ty ⟨b, 0, none⟩).run P w = .ok (.agg cs) w := by
  have h := run_loadVar_mid w b 0 ty cs.toList d hc hu hd (by rw [hi, Array.length_toList])
  rw [Array.toArray_toList] at h
  exact h
theorem results_c {P : Program} {fn : Func} {t : Tmp} {ty : TypeId} (h : fn.results = #[.cell t ty]) {tmps : Array Value} {w : World} {b : Nat} (hp : tmps.getD t undef = .pointer (some ⟨b, 0, none⟩)) {cs : Array Value} (hl : (loadVar ty ⟨b, 0, none⟩).run P w = .ok (.agg cs) w) : (results fn tmps).run P w = .ok (.agg cs) w := by
  simp only [Array.getD_eq_getD_getElem?] at hp
  simp [results, h, hp, asAddr, hl]
end Go.Proofs.YtdbpbhemnnffeaaGreatDoor
