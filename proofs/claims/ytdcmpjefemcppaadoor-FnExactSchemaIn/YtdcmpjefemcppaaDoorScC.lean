/-
  Several texts in one. The exact laws over schemas and things by contracts, where the program's functions are as their contracts say. · The exact laws over things by contracts, where the program's functions are as their contracts say: KeyText, ThingOk, ThingText. · The exact law of ReadSchema by contracts, where the program's function is as its contract says. · SchemaIn, the program's and the specification's, by contracts: the schema that stands at the key of a collection. · What a law holds over its calls: facts on blocks of an interval ('Held'), which stay where nothing of that interval is turned. · A disk that came in as an argument of a law, opened: what its reading gives. · laws.FnExactSchemaIn by contracts: it returns true at every disk, every root and every text.
-/
import Derived.Test.YtdcmpjefemcppaaDoorScB
import Derived.Test.YtdcmpjefemcppaaDoorScA
import Derived.Lib.SmallJoins
import Derived.Deep.Strs
import Derived.Deep.SlicePairs
import Derived.ChangeOld
import Derived.Deep.RegionHeld3
namespace Go.Proofs.YtdcmpjefemcppaaDoor
open Go.RowKit

theorem le_sum {x : Nat} : ∀ {l : List Nat}, x ∈ l → x ≤ l.sum
  | [], h => by cases h
  | y :: l, h => by
    rw [List.sum_cons]
    rcases List.mem_cons.1 h with h | h
    · omega
    · have := le_sum h; omega

theorem sumF_one {fs : List (ByteArray × Int)} {f : ByteArray × Int} (h : f ∈ fs) : f.1.size ≤ sumF fs fs.length := by
  unfold sumF
  rw [List.take_length]
  exact le_sum (List.mem_map_of_mem (f := fun p : ByteArray × Int => p.1.size) h)

theorem bulkF_in {fs : List (ByteArray × Int)} (h : bulkF fs ≤ 1048576) : fs.length ≤ 1048576 ∧ ∀ f ∈ fs, f.1.size ≤ 1048576 :=
  ⟨by unfold bulkF at h; omega, fun f hf => by have := sumF_one hf; unfold bulkF at h; omega⟩

end Go.Proofs.YtdcmpjefemcppaaDoor

namespace Go.Proofs.YtdcmpjefemcppaaDoor
open Go.RowKit

theorem sumP_one {vs : List (Int × ByteArray)} {f : Int × ByteArray} (h : f ∈ vs) : f.2.size ≤ sumP vs vs.length := by
  unfold sumP
  rw [List.take_length]
  exact le_sum (List.mem_map_of_mem (f := fun p : Int × ByteArray => p.2.size) h)

theorem bulkP_in {vs : List (Int × ByteArray)} (h : bulkP vs ≤ 1048576) : vs.length ≤ 1048576 ∧ ∀ f ∈ vs, f.2.size ≤ 1048576 :=
  ⟨by unfold bulkP at h; omega, fun f hf => by have := sumP_one hf; unfold bulkP at h; omega⟩

end Go.Proofs.YtdcmpjefemcppaaDoor

namespace Go.Proofs.YtdcmpjefemcppaaDoor
open Go.RowKit

theorem readSch_len {t : ByteArray} {fs : List (ByteArray × Int)} {ok : Bool} (h : ReadSch t fs ok) : fs.length ≤ 3 := by
  rcases h with ⟨-, h, -⟩ | ⟨-, rfl, -⟩
  · exact (schema_yes h.1).2.1
  · simp

end Go.Proofs.YtdcmpjefemcppaaDoor

namespace Go.Proofs.YtdcmpjefemcppaaDoor
open Go.RowKit

/-- the schema that is read of what is there -/
def SchIn (r : Option ByteArray) (fs : List (ByteArray × Int)) (ok : Bool) : Prop :=
  match r with
  | none => fs = [] ∧ ok = false
  | some t => ReadSch t fs ok

theorem schIn_one {r : Option ByteArray} {fs gs : List (ByteArray × Int)} {ok ko : Bool} (h : SchIn r fs ok) (k : SchIn r gs ko) : fs = gs ∧ ok = ko := by
  cases r with
  | none => exact ⟨by rw [h.1, k.1], by rw [h.2, k.2]⟩
  | some t => exact readSch_one h k

theorem schIn_len {r : Option ByteArray} {fs : List (ByteArray × Int)} {ok : Bool} (h : SchIn r fs ok) : fs.length ≤ 3 := by
  cases r with
  | none => rw [h.1]; exact Nat.zero_le _
  | some t => exact readSch_len h

theorem getL_size (D : Int → ByteArray) (key : ByteArray) : ∀ (k : Nat) (p : Int) (t : ByteArray), getL D key k p = some t → t.size ≤ 24
  | 0, _, _, h => by cases h
  | k + 1, p, t, h => by
    rw [getL] at h
    split at h
    · cases h
    · rename_i h0
      split at h
      · split at h
        · injection h with h
          subst h
          have hb : (rdN (D p)).2 = true := by
            cases e : (rdN (D p)).2 with
            | true => rfl
            | false => exact absurd (Or.inl e) h0
          have hok : (rdN (D p)).1.ok = true := rdN_ok (n := (rdN (D p)).1) (by rw [← hb])
          rw [Nd.ok, nodeOkB, Bool.and_eq_true, Bool.and_eq_true, Bool.and_eq_true] at hok
          have hv := of_decide_eq_true hok.1.2
          generalize (placeK (rdN (D p)).1.ks key (rdN (D p)).1.ks.length).toNat = i
          by_cases hi : i < (rdN (D p)).1.vs.length
          · exact hv i hi
          · simp [List.getD, List.getElem?_eq_none (by omega : (rdN (D p)).1.vs.length ≤ i)]; decide
        · cases h
      · exact getL_size D key k _ t h

theorem getK_size {D : Int → ByteArray} {root : Int} {key t : ByteArray} (h : getK D root key = some t) : t.size ≤ 24 := by
  unfold getK at h
  split at h
  · cases h
  · exact getL_size D key 8 root t h

theorem ownsRow_mono {w : World} {B B' T k : Nat} {v : Value} {n : Nat} {xs : List Value} (h : w.ownsRow B T k v n xs) (hb : B' ≤ B) : w.ownsRow B' T k v n xs := by
  refine ⟨h.1, ?_⟩
  rcases h.2 with h | ⟨g, cap, cur, rfl, hg, rest⟩
  · exact Or.inl h
  · exact Or.inr ⟨g, cap, cur, rfl, Nat.le_trans hb hg, rest⟩

set_option maxHeartbeats 4000000 in
set_option maxRecDepth 100000 in
theorem implSchemaIn_any (v : Value) (ps : List ByteArray) (ls : List (Int × ByteArray)) (hp : ps.length ≤ 1048576) (hl : ls.length ≤ 1048576) (hps : ∀ s ∈ ps, s.size ≤ 1048576) (hls : ∀ p ∈ ls, p.2.size ≤ 1048576) (root : Int) (coll : ByteArray) (hc : coll.size ≤ 1048576) (w : World) (hT : SumTab w) (hd : DiskAt w v ps ls) :
    Calls Tryd.prog 7 #[v, .int .i64 root, .string coll] w fun e w' => ∃ u fs ok, e = .returned (.tuple #[u, .bool ok]) ∧ w'.ownsRow w.heap.size 49 2 u fs.length (flds fs) ∧ SchIn (getK (readD ps ls) root (schK coll)) fs ok ∧ Below w.heap.size w w' := by
  have HD := hide hd
  have HT := hide hT
  clear hT
  obtain ⟨vp, vl, rfl, -, -⟩ := hd
  obtain ⟨w0, hw0⟩ : ∃ w0, w0 = w.alloc (Obj.cells #[vp, vl] 32) := ⟨_, rfl⟩
  have HB0 : Hid (Below w.heap.size w w0) := hide (by rw [hw0]; exact (Below.refl w.heap.size w).alloc (Nat.le_refl _) _)
  have hq0 : w0.heap[w.heap.size]? = some (Obj.cells #[vp, vl] 32) := by rw [hw0]; exact heap_alloc_new w _
  have HSB : Hid (∀ wx, Below w0.heap.size w0 wx → wx.cell? ⟨w.heap.size, 0, none⟩ = some vp ∧ wx.cell? ⟨w.heap.size, 1, none⟩ = some vl) := hide (fun wx hb => by
    have h := (hb.block w.heap.size (Array.getElem?_eq_some_iff.1 hq0).1).trans hq0
    exact ⟨(cell_at h 0).1, (cell_at h 1).1⟩)
  have hS0 := HSB.out w0 (Below.refl _ _)
  have HC1 := hide (fun wx => implSchemaKey_any coll hc wx)
  have HC2 := hide (fun wx ht h => implGetKey_any (.agg #[vp, vl]) ps ls hp hl hps hls root (schK coll) wx ht h)
  clear hq0 hp hl hps hls
  cases hr : getK (readD ps ls) root (schK coll) with
  | none =>
    rw [hr, getO] at HC2
    clear hr
    go_enter Tryd.func7, Tryd.ntmps7
    go_wp2_with fail
    rw [← hw0]
    clear hw0
    go_region_held3 (fun wx => wx.cell? ⟨w.heap.size, 0, none⟩ = some vp ∧ wx.cell? ⟨w.heap.size, 1, none⟩ = some vl) (first | exact hS0 | exact hS1 | exact hS2) (first | (go_at_call 21; (with_reducible refine (HC1.out _).mono ?_); rintro e w1 ⟨rfl, hb1⟩; have hA1 : Below w0.heap.size w0 w1 := (Below.refl _ _).drew.trans hb1; have hS1 := HSB.out _ hA1) | (go_at_call 20; have hgE := hA1; (with_reducible refine (HC2.out _ ?_ ?_).mono ?_); exact sumTab_below HT.out (HB0.out.trans (hA1.mono HB0.out.size)); exact disk_below HD.out (HB0.out.trans (hA1.mono HB0.out.size)); rintro e w2 ⟨rfl, hb2⟩; have hA2 : Below w0.heap.size w0 w2 := hA1.trans (hb2.mono hA1.size); have hS2 := HSB.out _ hA2))
    have HB2 : Hid (Below w.heap.size w w2) := hide (HB0.out.trans (hA2.mono HB0.out.size))
    clear hA1 hA2 hb2 hS0 hS1 hS2 HSB hb1
    go_wp2_with fail
    go_ret2
    exact ⟨_, [], false, rfl, own_flds0 _ _ HB2.out.size, ⟨rfl, rfl⟩, HB2.out.alloc HB2.out.size _⟩
  | some t =>
    have HC3 := hide (fun wx => implReadSchema_any t (Nat.le_trans (getK_size hr) (by decide)) wx)
    rw [hr, getO] at HC2
    clear hr
    go_enter Tryd.func7, Tryd.ntmps7
    go_wp2_with fail
    rw [← hw0]
    clear hw0
    go_region_held3 (fun wx => wx.cell? ⟨w.heap.size, 0, none⟩ = some vp ∧ wx.cell? ⟨w.heap.size, 1, none⟩ = some vl) (first | exact hS0 | exact hS1 | exact hS2) (first | (go_at_call 21; (with_reducible refine (HC1.out _).mono ?_); rintro e w1 ⟨rfl, hb1⟩; have hA1 : Below w0.heap.size w0 w1 := (Below.refl _ _).drew.trans hb1; have hS1 := HSB.out _ hA1) | (go_at_call 20; have hgE := hA1; (with_reducible refine (HC2.out _ ?_ ?_).mono ?_); exact sumTab_below HT.out (HB0.out.trans (hA1.mono HB0.out.size)); exact disk_below HD.out (HB0.out.trans (hA1.mono HB0.out.size)); rintro e w2 ⟨rfl, hb2⟩; have hA2 : Below w0.heap.size w0 w2 := hA1.trans (hb2.mono hA1.size); have hS2 := HSB.out _ hA2))
    have HB2 : Hid (Below w.heap.size w w2) := hide (HB0.out.trans (hA2.mono HB0.out.size))
    clear hA1 hA2 hb2 hS0 hS1 hS2 HSB hb1
    go_wp2_with fail
    refine (HC3.out _).mono ?_
    rintro e w3 ⟨u, fs, ok, rfl, hown, hrd, hb⟩
    have HO : Hid (w3.ownsRow w.heap.size 49 2 u fs.length (flds fs)) := hide (ownsRow_mono hown HB2.out.size)
    have HB3 : Hid (Below w.heap.size w w3) := hide (HB2.out.trans (hb.mono HB2.out.size))
    have HR := hide hrd
    clear hown hb hrd
    go_wp2_with fail
    go_ret2
    exact ⟨_, fs, ok, rfl, HO.out, HR.out, HB3.out⟩

set_option maxHeartbeats 4000000 in
set_option maxRecDepth 100000 in
theorem specSchemaIn_any (v : Value) (ps : List ByteArray) (ls : List (Int × ByteArray)) (hp : ps.length ≤ 1048576) (hl : ls.length ≤ 1048576) (hps : ∀ s ∈ ps, s.size ≤ 1048576) (hls : ∀ p ∈ ls, p.2.size ≤ 1048576) (root : Int) (coll : ByteArray) (hc : coll.size ≤ 1048576) (w : World) (hd : DiskAt w v ps ls) :
    Calls Tryd.prog 5 #[v, .int .i64 root, .string coll] w fun e w' => ∃ u fs ok, e = .returned (.tuple #[u, .bool ok]) ∧ w'.ownsRow w.heap.size 49 2 u fs.length (flds fs) ∧ SchIn (getK (readD ps ls) root (schK coll)) fs ok ∧ Below w.heap.size w w' := by
  have HD := hide hd
  obtain ⟨vp, vl, rfl, -, -⟩ := hd
  obtain ⟨w0, hw0⟩ : ∃ w0, w0 = w.alloc (Obj.cells #[vp, vl] 32) := ⟨_, rfl⟩
  have HB0 : Hid (Below w.heap.size w w0) := hide (by rw [hw0]; exact (Below.refl w.heap.size w).alloc (Nat.le_refl _) _)
  have hq0 : w0.heap[w.heap.size]? = some (Obj.cells #[vp, vl] 32) := by rw [hw0]; exact heap_alloc_new w _
  have HSB : Hid (∀ wx, Below w0.heap.size w0 wx → wx.cell? ⟨w.heap.size, 0, none⟩ = some vp ∧ wx.cell? ⟨w.heap.size, 1, none⟩ = some vl) := hide (fun wx hb => by
    have h := (hb.block w.heap.size (Array.getElem?_eq_some_iff.1 hq0).1).trans hq0
    exact ⟨(cell_at h 0).1, (cell_at h 1).1⟩)
  have hS0 := HSB.out w0 (Below.refl _ _)
  have HC1 := hide (fun wx => specSchemaKey_any coll hc wx)
  have HC2 := hide (fun wx h => specGetKey_any (.agg #[vp, vl]) ps ls hp hl hps hls root (schK coll) wx h)
  clear hq0 hp hl hps hls
  cases hr : getK (readD ps ls) root (schK coll) with
  | none =>
    rw [hr, getO] at HC2
    clear hr
    go_enter Tryd.func5, Tryd.ntmps5
    go_wp2_with fail
    rw [← hw0]
    clear hw0
    go_region_held3 (fun wx => wx.cell? ⟨w.heap.size, 0, none⟩ = some vp ∧ wx.cell? ⟨w.heap.size, 1, none⟩ = some vl) (first | exact hS0 | exact hS1 | exact hS2) (first | (go_at_call 16; (with_reducible refine (HC1.out _).mono ?_); rintro e w1 ⟨rfl, rfl⟩; have hA1 : Below w0.heap.size w0 w0.drew := (Below.refl _ _).drew; have hS1 := HSB.out _ hA1) | (go_at_call 15; have hgE := hA1; (with_reducible refine (HC2.out _ ?_).mono ?_); exact disk_below HD.out (HB0.out.trans (hA1.mono HB0.out.size)); rintro e w2 ⟨rfl, hb2⟩; have hA2 : Below w0.heap.size w0 w2 := hA1.trans (hb2.mono hA1.size); have hS2 := HSB.out _ hA2))
    have HB2 : Hid (Below w.heap.size w w2) := hide (HB0.out.trans (hA2.mono HB0.out.size))
    clear hA1 hA2 hb2 hS0 hS1 hS2 HSB
    go_wp2_with fail
    go_ret2
    exact ⟨_, [], false, rfl, own_flds0 _ _ HB2.out.size, ⟨rfl, rfl⟩, HB2.out.alloc HB2.out.size _⟩
  | some t =>
    have HC3 := hide (fun wx => specReadSchema_any t (Nat.le_trans (getK_size hr) (by decide)) wx)
    rw [hr, getO] at HC2
    clear hr
    go_enter Tryd.func5, Tryd.ntmps5
    go_wp2_with fail
    rw [← hw0]
    clear hw0
    go_region_held3 (fun wx => wx.cell? ⟨w.heap.size, 0, none⟩ = some vp ∧ wx.cell? ⟨w.heap.size, 1, none⟩ = some vl) (first | exact hS0 | exact hS1 | exact hS2) (first | (go_at_call 16; (with_reducible refine (HC1.out _).mono ?_); rintro e w1 ⟨rfl, rfl⟩; have hA1 : Below w0.heap.size w0 w0.drew := (Below.refl _ _).drew; have hS1 := HSB.out _ hA1) | (go_at_call 15; have hgE := hA1; (with_reducible refine (HC2.out _ ?_).mono ?_); exact disk_below HD.out (HB0.out.trans (hA1.mono HB0.out.size)); rintro e w2 ⟨rfl, hb2⟩; have hA2 : Below w0.heap.size w0 w2 := hA1.trans (hb2.mono hA1.size); have hS2 := HSB.out _ hA2))
    have HB2 : Hid (Below w.heap.size w w2) := hide (HB0.out.trans (hA2.mono HB0.out.size))
    clear hA1 hA2 hb2 hS0 hS1 hS2 HSB
    go_wp2_with fail
    refine (HC3.out _).mono ?_
    rintro e w3 ⟨u, fs, ok, rfl, hown, hrd, hb⟩
    have HO : Hid (w3.ownsRow w.heap.size 49 2 u fs.length (flds fs)) := hide (ownsRow_mono hown HB2.out.size)
    have HB3 : Hid (Below w.heap.size w w3) := hide (HB2.out.trans (hb.mono HB2.out.size))
    have HR := hide hrd
    clear hown hb hrd
    go_wp2_with fail
    go_ret2
    exact ⟨_, fs, ok, rfl, HO.out, HR.out, HB3.out⟩

end Go.Proofs.YtdcmpjefemcppaaDoor

namespace Go.Proofs.YtdcmpjefemcppaaDoor
open Go.RowKit

/-- a fact that hangs on the blocks B .. U - 1 alone -/
def Loc (B U : Nat) (p : World → Prop) : Prop := ∀ w w' : World, w.heap.size ≤ w'.heap.size → U ≤ w.heap.size → (∀ k, B ≤ k → k < U → w'.heap[k]? = w.heap[k]?) → p w → p w'

structure Held (wr : World) (B U : Nat) (p : World → Prop) : Prop where
  loc : Loc B U p
  le : U ≤ wr.heap.size
  is : p wr

theorem held_below {wr wr' : World} {B U : Nat} {p : World → Prop} (h : Held wr B U p) (hb : Below wr.heap.size wr wr') : Held wr' B U p :=
  ⟨h.loc, Nat.le_trans h.le hb.size, h.loc wr wr' hb.size h.le (fun k _ hk => hb.block k (Nat.lt_of_lt_of_le hk h.le)) h.is⟩

theorem held_kept {wr wr' : World} {B U : Nat} {p : World → Prop} {S : Nat → Prop} (h : Held wr B U p) (hk : Kept wr wr' S) (hS : ∀ k, B ≤ k → k < U → ¬ S k) : Held wr' B U p :=
  ⟨h.loc, Nat.le_trans h.le hk.2.2.2.1, h.loc wr wr' hk.2.2.2.1 h.le (fun k h1 h2 => hk.2.2.2.2 k (Nat.lt_of_lt_of_le h2 h.le) (hS k h1 h2)) h.is⟩

/-- a variable of two cells -/
def IsVar (g : Nat) (u0 u1 : Value) (t : TypeId) (w : World) : Prop := w.heap[g]? = some (Obj.cells #[u0, u1] t)

theorem held_var {w : World} {g : Nat} {u0 u1 : Value} {t : TypeId} (h : w.heap[g]? = some (Obj.cells #[u0, u1] t)) : Held w g (g + 1) (IsVar g u0 u1 t) :=
  ⟨fun a b _ _ hk hp => (hk g (Nat.le_refl _) (by omega)).trans hp, (Array.getElem?_eq_some_iff.1 h).1, h⟩

theorem held_cells {w : World} {B U g : Nat} {u0 u1 : Value} {t : TypeId} (h : Held w B U (IsVar g u0 u1 t)) : w.cell? ⟨g, 0, none⟩ = some u0 ∧ w.cell? ⟨g, 1, none⟩ = some u1 := ⟨(cell_at h.is 0).1, (cell_at h.is 1).1⟩

/-- a disk of our own whose rows lie in B .. U - 1 -/
def IsDisk (B U : Nat) (v : Value) (ps : List ByteArray) (ls : List (Int × ByteArray)) (w : World) : Prop := DiskOwn w B v ps ls ∧ ∀ k, diskBlocks v k → k < U

theorem diskOwn_loc {w w' : World} {B U : Nat} {v : Value} {ps : List ByteArray} {ls : List (Int × ByteArray)} (h : IsDisk B U v ps ls w) (_hs : w.heap.size ≤ w'.heap.size) (hk : ∀ k, B ≤ k → k < U → w'.heap[k]? = w.heap[k]?) : IsDisk B U v ps ls w' := by
  refine ⟨?_, h.2⟩
  have hl := diskOwn_lt h.1
  have hu := h.2
  obtain ⟨⟨vp, vl, rfl, h1, h2⟩, -⟩ := h
  have key : ∀ {e sz n : Nat} {u : Value} {xs : List Value}, w.ownsRow B e sz u n xs → (∀ k, u.ownBlock = some k → k < U) → w'.ownsRow B e sz u n xs := fun {e sz n u xs} h hlt => by
    refine ⟨h.1, ?_⟩
    rcases h.2 with ⟨rfl, hn⟩ | ⟨g, cap, cur, rfl, hg, hh, rest⟩
    · exact Or.inl ⟨rfl, hn⟩
    · exact Or.inr ⟨g, cap, cur, rfl, hg, (hk g hg (hlt g rfl)).trans hh, rest⟩
  exact ⟨vp, vl, rfl, key h1 (fun k e => hu k ⟨vp, vl, rfl, Or.inl e⟩), key h2 (fun k e => hu k ⟨vp, vl, rfl, Or.inr e⟩)⟩

theorem held_disk {w : World} {B : Nat} {v : Value} {ps : List ByteArray} {ls : List (Int × ByteArray)} (h : DiskOwn w B v ps ls) : Held w B w.heap.size (IsDisk B w.heap.size v ps ls) :=
  ⟨fun _ _ hs _ hk hp => diskOwn_loc hp hs hk, Nat.le_refl _, h, fun k hk => (diskOwn_lt h k hk).2⟩

/-- the same disk with other contents, turned in place -/
theorem held_again {w : World} {B U : Nat} {v : Value} {ps qs : List ByteArray} {ls ms : List (Int × ByteArray)} {w' : World} (h : Held w B U (IsDisk B U v ps ls)) (hd : DiskOwn w' B v qs ms) (hs : w.heap.size ≤ w'.heap.size) : Held w' B U (IsDisk B U v qs ms) :=
  ⟨fun _ _ hs _ hk hp => diskOwn_loc hp hs hk, Nat.le_trans h.le hs, hd, h.is.2⟩

theorem disk_form {w : World} {B : Nat} {v : Value} {ps : List ByteArray} {ls : List (Int × ByteArray)} (h : DiskOwn w B v ps ls) : ∃ x c y d, v = .agg #[.slice x ps.length c, .slice y ls.length d] := by
  obtain ⟨vp, vl, rfl, h1, h2⟩ := h
  obtain ⟨x, c, rfl⟩ := own_slice h1
  obtain ⟨y, d, rfl⟩ := own_slice h2
  exact ⟨x, c, y, d, rfl⟩

/-- a new variable behind what was -/
theorem new_var (w : World) (u0 u1 : Value) (t : TypeId) : Below w.heap.size w (w.alloc (Obj.cells #[u0, u1] t)) ∧ Held (w.alloc (Obj.cells #[u0, u1] t)) w.heap.size (w.heap.size + 1) (IsVar w.heap.size u0 u1 t) :=
  ⟨(Below.refl _ _).alloc (Nat.le_refl _) _, held_var (heap_alloc_new w _)⟩
end Go.Proofs.YtdcmpjefemcppaaDoor

namespace Go.Proofs.YtdcmpjefemcppaaDoor
open Go.RowKit Go.ChangeShapes Go.WideShapes Go.Deep

theorem row_strs {H : Type} {enc : TypeId × Value → H} {W : World} {base : Nat} {spare : Nat → Bool} {held : Bool} {fuel : Nat} {v : Value} {x : DataW H × List MemPlace}
    (h : DataW.trod enc Tryd.prog W base spare held fuel 22 [v] = some x) : ∃ ps : List ByteArray, RowAt W 1 v ps.length (strs ps) ∧ ps.length ≤ maxLen ∧ ∀ s ∈ ps, s.size ≤ maxLen := by
  rcases open_strs Tryd.underlying22 Tryd.underlying9 (by kernel_rfl) h with ⟨hcs, -⟩ | ⟨a, len, cap, m, Sx, hcs, -, hl, hm, hmm, -, hx⟩
  · injection hcs with hcs
    subst hcs
    exact ⟨[], ⟨rfl, none, 0, rfl, Or.inl rfl⟩, by unfold maxLen; simp, fun s hs => by cases hs⟩
  · injection hcs with hcs
    subst hcs
    have hlm : len ≤ m := by rw [hmm]; split <;> omega
    refine ⟨(List.range len).map Sx, ?_, by simp; omega, fun s hs => ?_⟩
    · rw [List.length_map, List.length_range]
      refine ⟨by rw [strs_length]; simp, some a, cap, rfl, ?_⟩
      by_cases h0 : len = 0
      · exact Or.inl h0
      · obtain ⟨b, off, spot⟩ := a
        have hc := (hx 0 (by omega)).1
        obtain rfl : spot = none := by simpa [Addr.add] using World.cell?_spot hc
        refine Or.inr ⟨b, off, rfl, World.block_lt_of_cell? W _ (by simpa [Addr.add] using hc : W.cell? ⟨b, off, none⟩ = _), fun j hj => ?_⟩
        have hj' : j < len := by omega
        have := (hx j (by omega)).1
        rw [Addr.add_lit] at this
        rw [this, strs_at _ j (by simpa using hj')]
        simp
    · obtain ⟨i, hi, rfl⟩ := List.mem_map.1 hs
      exact (hx i (by have := List.mem_range.1 hi; omega)).2

theorem row_puts {H : Type} {enc : TypeId × Value → H} {W : World} {base : Nat} {spare : Nat → Bool} {held : Bool} {fuel : Nat} {v : Value} {x : DataW H × List MemPlace}
    (h : DataW.trod enc Tryd.prog W base spare held fuel 23 [v] = some x) : ∃ ls : List (Int × ByteArray), RowAt W 2 v ls.length (puts ls) ∧ ls.length ≤ maxLen ∧ ∀ p ∈ ls, p.2.size ≤ maxLen := by
  rcases open_slice_pairs Tryd.underlying23 Tryd.underlying56 (by kernel_rfl) rfl rfl (by kernel_rfl) (by kernel_rfl) h with ⟨hcs, -⟩ | ⟨a, len, cap, m, n, V0, V1, D0, D1, P0, P1, hcs, -, hl, hm, hmm, -, hx⟩
  · injection hcs with hcs
    subst hcs
    exact ⟨[], ⟨rfl, none, 0, rfl, Or.inl rfl⟩, by unfold maxLen; simp, fun s hs => by cases hs⟩
  · injection hcs with hcs
    subst hcs
    have hlm : len ≤ m := by rw [hmm]; split <;> omega
    have each : ∀ i, i < m → ∃ q : Int × ByteArray, V0 i = .int .i64 q.1 ∧ V1 i = .string q.2 ∧ q.2.size ≤ maxLen := fun i hi => by
      obtain ⟨h1, h2, h3, h4⟩ := hx i hi
      obtain ⟨k, e1, e2, -⟩ := DataW.trod_int Tryd.underlying3 h3
      obtain ⟨s, g1, g2, g3⟩ := DataW.trod_string Tryd.underlying9 h4
      exact ⟨(k, s), by simpa using e1, by simpa using g1, g3⟩
    obtain ⟨q, hq⟩ := choose_lt each
    refine ⟨(List.range len).map q, ?_, by simp; omega, fun s hs => ?_⟩
    · rw [List.length_map, List.length_range]
      refine ⟨by rw [puts_length]; simp, some a, cap, rfl, ?_⟩
      by_cases h0 : len = 0
      · exact Or.inl h0
      · obtain ⟨b, off, spot⟩ := a
        have hc := (hx 0 (by omega)).1
        obtain rfl : spot = none := by simpa [Addr.add] using World.cell?_spot hc
        refine Or.inr ⟨b, off, rfl, World.block_lt_of_cell? W _ (by simpa [Addr.add] using hc : W.cell? ⟨b, off, none⟩ = _), fun j hj => ?_⟩
        have hi : j / 2 < len := by omega
        obtain ⟨h1, h2, -, -⟩ := hx (j / 2) (by omega)
        rw [Addr.add_lit] at h1 h2
        have hp := puts_at ((List.range len).map q) (j / 2) (by simpa using hi)
        rcases Nat.mod_two_eq_zero_or_one j with e | e
        · rw [show j = j / 2 * 2 from by omega, hp.1, h1, (hq (j / 2) (by omega)).1]
          simp
        · rw [show j = j / 2 * 2 + 1 from by omega, hp.2, h2, (hq (j / 2) (by omega)).2.1]
          simp
    · obtain ⟨i, hi, rfl⟩ := List.mem_map.1 hs
      exact (hq i (by have := List.mem_range.1 hi; omega)).2.2

set_option maxRecDepth 100000 in
theorem open_disk {H : Type} {enc : TypeId × Value → H} {W : World} {r : Reach} {b0 base : Nat} {spare : Nat → Bool} {held : Bool} {v : Value} {d : DataW H} {p : List MemPlace}
    (hv : Value.okWide Tryd.prog W r b0 25 v) (h : DataW.Trod enc Tryd.prog W base spare held 25 v d p) :
    ∃ ps ls, DiskAt W v ps ls ∧ ps.length ≤ maxLen ∧ (∀ s ∈ ps, s.size ≤ maxLen) ∧ ls.length ≤ maxLen ∧ ∀ p ∈ ls, p.2.size ≤ maxLen := by
  obtain ⟨v0, v1, y0, y1, n, rfl, -, -, h0, h1⟩ := Joins.open_agg2 Tryd.underlying25 (by kernel_rfl) (by kernel_rfl) hv h
  obtain ⟨ps, hp1, hp2, hp3⟩ := row_strs h0
  obtain ⟨ls, hl1, hl2, hl3⟩ := row_puts h1
  exact ⟨ps, ls, ⟨v0, v1, rfl, hp1, hl1⟩, hp2, hp3, hl2, hl3⟩
end Go.Proofs.YtdcmpjefemcppaaDoor

namespace Go.Proofs.YtdcmpjefemcppaaDoor
open Go.RowKit

theorem bulk_inFd {ps : List ByteArray} {ls : List (Int × ByteArray)} (h : bulkS ps + bulkP ls ≤ 1048576) : ps.length ≤ 1048576 ∧ (∀ s ∈ ps, s.size ≤ 1048576) ∧ ls.length ≤ 1048576 ∧ ∀ p ∈ ls, p.2.size ≤ 1048576 := by
  rw [bulkS_eq] at h
  unfold bulkP at h
  refine ⟨by omega, fun s hs => ?_, by omega, fun p hp => ?_⟩
  · obtain ⟨i, hi, rfl⟩ := List.getElem_of_mem hs
    have h1 := sumS_succ ps i hi
    have h2 := sumS_mono ps (i + 1)
    omega
  · obtain ⟨i, hi, rfl⟩ := List.getElem_of_mem hp
    have h1 := sumP_succ ls i hi
    have h2 := sumP_mono ls (i + 1)
    omega

/-- a row of pairs of our own that lies in B .. U - 1 -/
def IsFd (B U : Nat) (v : Value) (l : List (ByteArray × Int)) (w : World) : Prop := w.ownsRow B 49 2 v l.length (flds l) ∧ ∀ j, v.ownBlock = some j → j < U

theorem Fd_loc {w w' : World} {B U : Nat} {v : Value} {l : List (ByteArray × Int)} (h : IsFd B U v l w) (hk : ∀ k, B ≤ k → k < U → w'.heap[k]? = w.heap[k]?) : IsFd B U v l w' := by
  refine ⟨⟨h.1.1, ?_⟩, h.2⟩
  have hu := h.2
  rcases h.1.2 with ⟨rfl, hn⟩ | ⟨g, cap, cur, rfl, hg, hh, rest⟩
  · exact Or.inl ⟨rfl, hn⟩
  · exact Or.inr ⟨g, cap, cur, rfl, hg, (hk g hg (hu g rfl)).trans hh, rest⟩

theorem held_Fd {w : World} {B : Nat} {v : Value} {l : List (ByteArray × Int)} (h : w.ownsRow B 49 2 v l.length (flds l)) : Held w B w.heap.size (IsFd B w.heap.size v l) :=
  ⟨fun _ _ _ _ hk hp => Fd_loc hp hk, Nat.le_refl _, h, fun k hk => (h.lt k hk).2⟩

theorem held_FdA {w : World} {B U : Nat} {v : Value} {l l' : List (ByteArray × Int)} {w' : World} (h : Held w B U (IsFd B U v l)) (hd : w'.ownsRow B 49 2 v l'.length (flds l')) (hs : w.heap.size ≤ w'.heap.size) : Held w' B U (IsFd B U v l') :=
  ⟨fun _ _ _ _ hk hp => Fd_loc hp hk, Nat.le_trans h.le hs, hd, h.is.2⟩

set_option maxHeartbeats 8000000 in
set_option maxRecDepth 100000 in
theorem lawSchemaIn (v : Value) (ps : List ByteArray) (ls : List (Int × ByteArray)) (bp : ps.length ≤ maxLen) (bq : ∀ s ∈ ps, s.size ≤ maxLen) (bl : ls.length ≤ maxLen) (bm : ∀ p ∈ ls, p.2.size ≤ maxLen) (root : Int) (f : ByteArray) (hfm : f.size ≤ maxLen) (w : World) (hT : SumTab w) (hd : DiskAt w v ps ls) :
    Calls Tryd.prog 3 #[v, .int .i64 root, .string f] w fun e w' => e = .returned (.bool true) ∧ Below w.heap.size w w' := by
  have HSz := hide (fun wx h => szDisk_any v ps ls bp bq bl bm 1048576 (Nat.le_refl _) wx h)
  clear bp bq bl bm
  have HD := hide hd
  have HT := hide hT
  clear hT
  obtain ⟨vp, vl, rfl, -, -⟩ := hd
  obtain ⟨w0, hw0⟩ : ∃ w0, w0 = w.alloc (Obj.cells #[vp, vl] 25) := ⟨_, rfl⟩
  have HB_w0 : Hid (Below w.heap.size w w0) := hide (by rw [hw0]; exact (new_var w vp vl _).1)
  have Hbox_w0 : Hid (Held w0 w.heap.size (w.heap.size + 1) (IsVar w.heap.size vp vl 25)) := hide (by rw [hw0]; exact (new_var w vp vl _).2)
  unfold maxLen at hfm
  by_cases hfb : 1048576 < f.size
  · have dk : decide ((1048576 : Int) < (f.size : Int)) = true := decide_eq_true (by omega)
    go_enter Tryd.func3, Tryd.ntmps3
    go_wp2_with fail
    rw [← hw0]
    go_ret
    exact ⟨rfl, HB_w0.out⟩
  have df : ¬ ((1048576 : Int) < (f.size : Int)) := by omega
  by_cases hbk : bulkS ps + bulkP ls ≤ 1048576
  · obtain ⟨h1, h2, h3, h4⟩ := bulk_inFd hbk
    obtain ⟨r, hr⟩ : ∃ r : Nat, szOut 1048576 (bulkS ps + bulkP ls) = (r : Int) := ⟨_, szOut_yes hbk⟩
    rw [hr] at HSz
    have HTo := hide (fun wx h => toDisk_any (.agg #[vp, vl]) ps ls h1 h3 wx h)
    have HSp := hide (fun u wx h => specSchemaIn_any u ps ls h1 h3 h2 h4 root f (by omega) wx h)
    have HIm := hide (fun u wx ht h => implSchemaIn_any u ps ls h1 h3 h2 h4 root f (by omega) wx ht h)
    have HEx := hide (fun u u' wx h h' => eqDisk_any u u' ps ps ls ls (by omega) (by omega) (by omega) (by omega) wx h h')
    rw [decide_eq_true rfl] at HEx
    have HMx := hide (fun u B wx h => markDisk_any u ps ls B 1 h1 h3 (by omega) (by omega) wx h)
    obtain ⟨kx, hkx⟩ : ∃ kx, kx = 1 + ps.length + ls.length * 2 := ⟨_, rfl⟩
    rw [← hkx] at HMx
    have hkxl : kx ≤ 4000000 := by omega
    clear hbk h1 h2 h3 h4 hr hkx
    go_enter Tryd.func3, Tryd.ntmps3
    go_wp2_with fail
    rw [← hw0]
    clear hw0
    refine (HSz.out _ (disk_below HD.out HB_w0.out)).mono ?_
    rintro e w1 ⟨rfl, hb⟩
    have Hbox_w1 := hide (held_below Hbox_w0.out hb)
    have HB_w1 : Hid (Below w.heap.size w w1) := hide (HB_w0.out.trans (hb.mono HB_w0.out.size))
    clear hb
    obtain ⟨ffb0, ffb1⟩ := held_cells Hbox_w1.out
    go_wp2_with fail
    clear ffb0 ffb1
    refine (HTo.out _ (disk_below HD.out HB_w1.out)).mono ?_
    rintro e w2 ⟨u2, rfl, hown2, hb⟩
    have Hbox_w2 := hide (held_below Hbox_w1.out hb)
    have HB_w2 : Hid (Below w.heap.size w w2) := hide (HB_w1.out.trans (hb.mono HB_w1.out.size))
    clear hb
    have HO2 := hide hown2
    clear hown2
    go_wp2_with fail
    refine (HSp.out u2 _ (disk_of_own HO2.out)).mono ?_
    rintro e w3 ⟨u3, rl, fl, rfl, hown, hrd, hb⟩
    have hrl := schIn_len hrd
    have HRd := hide hrd
    clear hrd
    have HEr := hide (fun u u' wx h h' => eqFieldS_row rl rl (by omega) (by omega) u u' wx h h')
    rw [decide_eq_true rfl] at HEr
    have HMr := hide (fun u B wx h => markFieldS_row rl (by omega) u B 1 (by omega) (by omega) wx h)
    have HHr := hide (fun u wx h => heldFieldS_row rl.length (by omega) u 1 (by omega) (by omega) wx h)
    obtain ⟨kr, hkr⟩ : ∃ kr, kr = 1 + rl.length * 2 := ⟨_, rfl⟩
    rw [← hkr] at HMr HHr
    have hkrl : kr ≤ 4000000 := by omega
    clear hkr
    have hown : w3.ownsRow w2.heap.size 49 2 u3 rl.length (flds rl) := hown
    have HZ3 : Hid (w2.heap.size ≤ w3.heap.size) := hide hb.size
    have Hbox_w3 := hide (held_below Hbox_w2.out hb)
    have HB_w3 : Hid (Below w.heap.size w w3) := hide (HB_w2.out.trans (hb.mono HB_w2.out.size))
    clear hb HO2
    have Hr3_w3 := hide (held_Fd hown)
    obtain ⟨x3, c3, rfl⟩ := own_slice hown
    clear hown
    obtain ⟨ffb0, ffb1⟩ := held_cells Hbox_w3.out
    go_wp2_with fail
    clear ffb0 ffb1
    refine (HTo.out _ (disk_below HD.out HB_w3.out)).mono ?_
    rintro e w5 ⟨u5, rfl, hown, hb⟩
    have HZ5 : Hid (w3.heap.size ≤ w5.heap.size) := hide hb.size
    have Hbox_w5 := hide (held_below Hbox_w3.out hb)
    have Hr3_w5 := hide (held_below Hr3_w3.out hb)
    have HB_w5 : Hid (Below w.heap.size w w5) := hide (HB_w3.out.trans (hb.mono HB_w3.out.size))
    clear hb
    have Hd5_w5 := hide (held_disk hown)
    obtain ⟨x5, c5, y5, d5, rfl⟩ := disk_form hown
    clear hown
    obtain ⟨g5, hg⟩ : ∃ g, g = w5.heap.size := ⟨_, rfl⟩
    obtain ⟨w6, hnw⟩ : ∃ wx, wx = w5.alloc (Obj.cells #[.slice x5 ps.length c5, .slice y5 ls.length d5] 32) := ⟨_, rfl⟩
    have hnv := new_var w5 (.slice x5 ps.length c5) (.slice y5 ls.length d5) 32
    rw [← hnw, ← hg] at hnv
    have hbv : Below w5.heap.size w5 w6 := by rw [← hg]; exact hnv.1
    have Hg5_w6 := hide hnv.2
    have Hgt5 : Hid (w5.heap.size = g5) := hide hg.symm
    have Hbox_w6 := hide (held_below Hbox_w5.out hbv)
    have Hr3_w6 := hide (held_below Hr3_w5.out hbv)
    have Hd5_w6 := hide (held_below Hd5_w5.out hbv)
    have HB_w6 : Hid (Below w.heap.size w w6) := hide (HB_w5.out.trans (hbv.mono HB_w5.out.size))
    clear hnv hbv
    have HDx := hide (disk_of_own Hd5_w6.out.is.1)
    have HTx := hide (sumTab_below HT.out HB_w6.out)
    go_wp2_with fail
    rw [← hnw, ← hg]
    clear hnw hg
    refine (HIm.out _ _ HTx.out HDx.out).mono ?_
    rintro e w7 ⟨u7, rl7, fl7, rfl, hown, hrd, hb⟩
    obtain ⟨rfl, rfl⟩ := schIn_one HRd.out hrd
    clear hrd
    have hown : w7.ownsRow w6.heap.size 49 2 u7 rl.length (flds rl) := hown
    have HZ7 : Hid (w6.heap.size ≤ w7.heap.size) := hide hb.size
    have Hbox_w7 := hide (held_below Hbox_w6.out hb)
    have Hr3_w7 := hide (held_below Hr3_w6.out hb)
    have Hd5_w7 := hide (held_below Hd5_w6.out hb)
    have Hg5_w7 := hide (held_below Hg5_w6.out hb)
    have HB_w7 : Hid (Below w.heap.size w w7) := hide (HB_w6.out.trans (hb.mono HB_w6.out.size))
    clear hb HDx HTx
    have Hr7_w7 := hide (held_Fd hown)
    obtain ⟨x7, c7, rfl⟩ := own_slice hown
    clear hown
    go_wp2_with fail
    refine (HEr.out _ _ _ (row_of_own Hr7_w7.out.is.1) (row_of_own Hr3_w7.out.is.1)).mono ?_
    rintro e w9 ⟨rfl, hb⟩
    have Hbox_w9 := hide (held_below Hbox_w7.out hb)
    have Hr3_w9 := hide (held_below Hr3_w7.out hb)
    have Hd5_w9 := hide (held_below Hd5_w7.out hb)
    have Hg5_w9 := hide (held_below Hg5_w7.out hb)
    have Hr7_w9 := hide (held_below Hr7_w7.out hb)
    have HB_w9 : Hid (Below w.heap.size w w9) := hide (HB_w7.out.trans (hb.mono HB_w7.out.size))
    clear hb
    obtain ⟨ffb0, ffb1⟩ := held_cells Hbox_w9.out
    obtain ⟨ffx0, ffx1⟩ := held_cells Hg5_w9.out
    go_wp2_with fail
    have HSall : Hid (∀ wx, Below w9.heap.size w9 wx → wx.cell? ⟨w.heap.size, 0, none⟩ = some vp ∧ wx.cell? ⟨w.heap.size, 1, none⟩ = some vl ∧ wx.cell? ⟨g5, 0, none⟩ = some (.slice x5 ps.length c5) ∧ wx.cell? ⟨g5, 1, none⟩ = some (.slice y5 ls.length d5)) := hide (fun wx hb => by
      have h1 := (held_below Hbox_w9.out hb).is
      have h2 := (held_below Hg5_w9.out hb).is
      exact ⟨(cell_at h1 0).1, (cell_at h1 1).1, (cell_at h2 0).1, (cell_at h2 1).1⟩)
    have hS0 := HSall.out w9 (Below.refl _ _)
    clear ffb0 ffb1 ffx0 ffx1
    go_region_held3 (fun wx => wx.cell? ⟨w.heap.size, 0, none⟩ = some vp ∧ wx.cell? ⟨w.heap.size, 1, none⟩ = some vl ∧ wx.cell? ⟨g5, 0, none⟩ = some (.slice x5 ps.length c5) ∧ wx.cell? ⟨g5, 1, none⟩ = some (.slice y5 ls.length d5)) (first | exact hS0 | exact hS8 | exact hS9) (first | (go_at_call 6; refine (HTo.out _ ?_).mono ?_; exact disk_below HD.out HB_w9.out.drew; rintro e w10 ⟨u10, rfl, hown, hbA⟩; have hA8 : Below w9.heap.size w9 w10 := (Below.refl _ _).drew.trans hbA; have hS8 := HSall.out _ hA8) | (go_at_call 9; refine (HEx.out _ _ _ ?_ ?_).mono ?_; exact disk_below (disk_of_own Hd5_w9.out.is.1) hA8; exact disk_of_own hown; rintro e w11 ⟨rfl, hbC⟩; have hA9 : Below w9.heap.size w9 w11 := hA8.trans (hbC.mono hA8.size); have hS9 := HSall.out _ hA9))
    have hb := hA9
    have Hbox_w11 := hide (held_below Hbox_w9.out hb)
    have Hr3_w11 := hide (held_below Hr3_w9.out hb)
    have Hd5_w11 := hide (held_below Hd5_w9.out hb)
    have Hg5_w11 := hide (held_below Hg5_w9.out hb)
    have Hr7_w11 := hide (held_below Hr7_w9.out hb)
    have HB_w11 : Hid (Below w.heap.size w w11) := hide (HB_w9.out.trans (hb.mono HB_w9.out.size))
    clear hb hA8 hA9 hbA hbC hown hS0 hS8 hS9 HSall
    have HL : Hid (w.heap.size + 1 ≤ w2.heap.size ∧ w2.heap.size ≤ w3.heap.size ∧ w3.heap.size ≤ w5.heap.size ∧ w5.heap.size = g5 ∧ g5 + 1 ≤ w6.heap.size ∧ w6.heap.size ≤ w7.heap.size) := hide ⟨Hbox_w2.out.le, HZ3.out, HZ5.out, Hgt5.out, Hg5_w6.out.le, HZ7.out⟩
    obtain ⟨ffx0, ffx1⟩ := held_cells Hg5_w11.out
    go_wp2_with fail
    clear ffx0 ffx1
    have hin5 : ∀ k, diskBlocks (.agg #[.slice x5 ps.length c5, .slice y5 ls.length d5]) k → w3.heap.size ≤ k ∧ k < w5.heap.size := fun k h => ⟨(diskOwn_lt Hd5_w11.out.is.1 k h).1, Hd5_w11.out.is.2 k h⟩
    refine (HMx.out _ _ _ Hd5_w11.out.is.1).mono ?_
    rintro e w12 ⟨rfl, hownM, hk⟩
    have Hbox_w12 := hide (held_kept Hbox_w11.out hk (fun k h1 h2 h => by have h3 := hin5 k h; have h4 := HL.out; omega))
    have Hr3_w12 := hide (held_kept Hr3_w11.out hk (fun k h1 h2 h => by have h3 := hin5 k h; have h4 := HL.out; omega))
    have Hg5_w12 := hide (held_kept Hg5_w11.out hk (fun k h1 h2 h => by have h3 := hin5 k h; have h4 := HL.out; omega))
    have Hr7_w12 := hide (held_kept Hr7_w11.out hk (fun k h1 h2 h => by have h3 := hin5 k h; have h4 := HL.out; omega))
    have HB_w12 : Hid (Below w.heap.size w w12) := hide (HB_w11.out.trans (below_of_kept hk HB_w11.out.size (fun k h => by have h3 := hin5 k h; have h4 := HL.out; omega)))
    clear hk hownM hin5
    go_wp2_with fail
    refine (HEr.out _ _ _ (row_of_own Hr7_w12.out.is.1) (row_of_own Hr3_w12.out.is.1)).mono ?_
    rintro e w13 ⟨rfl, hb⟩
    have Hbox_w13 := hide (held_below Hbox_w12.out hb)
    have Hr3_w13 := hide (held_below Hr3_w12.out hb)
    have Hg5_w13 := hide (held_below Hg5_w12.out hb)
    have Hr7_w13 := hide (held_below Hr7_w12.out hb)
    have HB_w13 : Hid (Below w.heap.size w w13) := hide (HB_w12.out.trans (hb.mono HB_w12.out.size))
    clear hb
    go_wp2_with fail
    have hin6 : ∀ k, (Value.slice x7 rl.length c7).ownBlock = some k → w6.heap.size ≤ k ∧ k < w7.heap.size := fun k h => ⟨(Hr7_w13.out.is.1.lt k h).1, Hr7_w13.out.is.2 k h⟩
    refine (HMr.out _ _ _ Hr7_w13.out.is.1).mono ?_
    rintro e w14 ⟨rfl, hownM, hk⟩
    have HrM_w14 := hide (held_FdA (l' := marksF 1 rl.length) Hr7_w13.out (by rw [marksF_length]; exact hownM) hk.2.2.2.1)
    have Hbox_w14 := hide (held_kept Hbox_w13.out hk (fun k h1 h2 h => by have h3 := hin6 k h; have h4 := HL.out; omega))
    have Hr3_w14 := hide (held_kept Hr3_w13.out hk (fun k h1 h2 h => by have h3 := hin6 k h; have h4 := HL.out; omega))
    have Hg5_w14 := hide (held_kept Hg5_w13.out hk (fun k h1 h2 h => by have h3 := hin6 k h; have h4 := HL.out; omega))
    have HB_w14 : Hid (Below w.heap.size w w14) := hide (HB_w13.out.trans (below_of_kept hk HB_w13.out.size (fun k h => by have h3 := hin6 k h; have h4 := HL.out; omega)))
    clear hk hownM hin6
    go_wp2_with fail
    have hrow : RowAt w14 2 (.slice x7 rl.length c7) rl.length (flds (marksF 1 rl.length)) := by have h := row_of_own HrM_w14.out.is.1; rw [marksF_length] at h; exact h
    refine (HHr.out _ _ hrow).mono ?_
    rintro e w15 ⟨rfl, hb⟩
    clear hrow
    have Hbox_w15 := hide (held_below Hbox_w14.out hb)
    have Hr3_w15 := hide (held_below Hr3_w14.out hb)
    have Hg5_w15 := hide (held_below Hg5_w14.out hb)
    have HrM_w15 := hide (held_below HrM_w14.out hb)
    have HB_w15 : Hid (Below w.heap.size w w15) := hide (HB_w14.out.trans (hb.mono HB_w14.out.size))
    clear hb
    obtain ⟨ffb0, ffb1⟩ := held_cells Hbox_w15.out
    go_wp2_with fail
    clear ffb0 ffb1
    refine (HTo.out _ (disk_below HD.out HB_w15.out)).mono ?_
    rintro e w16 ⟨u16, rfl, hown, hb⟩
    have Hbox_w16 := hide (held_below Hbox_w15.out hb)
    have Hr3_w16 := hide (held_below Hr3_w15.out hb)
    have Hg5_w16 := hide (held_below Hg5_w15.out hb)
    have HrM_w16 := hide (held_below HrM_w15.out hb)
    have HB_w16 : Hid (Below w.heap.size w w16) := hide (HB_w15.out.trans (hb.mono HB_w15.out.size))
    clear hb
    have HO16 := hide hown
    obtain ⟨x6, c6, y6, d6, rfl⟩ := disk_form hown
    clear hown
    go_wp2_with fail
    refine (HIm.out _ _ (sumTab_below HT.out HB_w16.out) (disk_of_own HO16.out)).mono ?_
    rintro e w17 ⟨u17, rl17, fl17, rfl, hown, hrd, hb⟩
    obtain ⟨rfl, rfl⟩ := schIn_one HRd.out hrd
    clear hrd
    have hown : w17.ownsRow w16.heap.size 49 2 u17 rl.length (flds rl) := hown
    have Hbox_w17 := hide (held_below Hbox_w16.out hb)
    have Hr3_w17 := hide (held_below Hr3_w16.out hb)
    have Hg5_w17 := hide (held_below Hg5_w16.out hb)
    have HrM_w17 := hide (held_below HrM_w16.out hb)
    have HB_w17 : Hid (Below w.heap.size w w17) := hide (HB_w16.out.trans (hb.mono HB_w16.out.size))
    clear hb HO16
    have HOr := hide hown
    obtain ⟨x8, c8, rfl⟩ := own_slice hown
    clear hown
    go_wp2_with fail
    refine (HEr.out _ _ _ (row_of_own HOr.out) (row_of_own Hr3_w17.out.is.1)).mono ?_
    rintro e w19 ⟨rfl, hb⟩
    have Hbox_w19 := hide (held_below Hbox_w17.out hb)
    have Hr3_w19 := hide (held_below Hr3_w17.out hb)
    have Hg5_w19 := hide (held_below Hg5_w17.out hb)
    have HrM_w19 := hide (held_below HrM_w17.out hb)
    have HB_w19 : Hid (Below w.heap.size w w19) := hide (HB_w17.out.trans (hb.mono HB_w17.out.size))
    clear hb
    go_wp2_with fail
    have hrow : RowAt w19 2 (.slice x7 rl.length c7) rl.length (flds (marksF 1 rl.length)) := by have h := row_of_own HrM_w19.out.is.1; rw [marksF_length] at h; exact h
    refine (HHr.out _ _ hrow).mono ?_
    rintro e w20 ⟨rfl, hb⟩
    clear hrow
    have Hbox_w20 := hide (held_below Hbox_w19.out hb)
    have Hr3_w20 := hide (held_below Hr3_w19.out hb)
    have Hg5_w20 := hide (held_below Hg5_w19.out hb)
    have HrM_w20 := hide (held_below HrM_w19.out hb)
    have HB_w20 : Hid (Below w.heap.size w w20) := hide (HB_w19.out.trans (hb.mono HB_w19.out.size))
    clear hb
    go_wp2_with fail
    go_ret
    exact ⟨rfl, HB_w20.out⟩
  · rw [szOut_no (by omega)] at HSz
    go_enter Tryd.func3, Tryd.ntmps3
    go_wp2_with fail
    rw [← hw0]
    refine (HSz.out _ (disk_below HD.out HB_w0.out)).mono ?_
    rintro e w1 ⟨rfl, hb1⟩
    clear hw0
    go_wp2_with fail
    go_ret
    exact ⟨rfl, HB_w0.out.trans (hb1.mono HB_w0.out.size)⟩
end Go.Proofs.YtdcmpjefemcppaaDoor
