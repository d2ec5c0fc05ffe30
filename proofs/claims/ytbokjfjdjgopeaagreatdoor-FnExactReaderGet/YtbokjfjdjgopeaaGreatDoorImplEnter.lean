/-
  impl.enter by a contract: a store's copy in a hall whose mutex is held, and its readers by their Ids (made by tools/implenter.py).
-/
import Derived.Test.YtbokjfjdjgopeaaGreatDoorImplSCopy
import Derived.Test.YtbokjfjdjgopeaaGreatDoorRgK
namespace Go.Proofs.YtbokjfjdjgopeaaGreatDoor
open Go.RowKit Go.MuLone

theorem rmap_of {W : World} {g : Nat} (h : W.heap[g]? = some (.map #[] 0)) : RMap W g [] 0 := by
  obtain ⟨D, ⟨es, clock, hb, hr⟩, h2⟩ := rmap_made W
  rw [heap_alloc_new] at hb
  injection hb with hb
  injection hb with hb1 hb2
  subst hb1 hb2
  exact ⟨D, ⟨_, _, h, hr⟩, h2⟩

theorem sep_mapNew {B : Nat} {W : World} {g : Nat} {l : List Ast} (h : Sep B W (cellA g (.map #[] 0) :: l)) : Sep B W (mapA g [] 0 :: l) := by
  obtain ⟨⟨h1, h2⟩, h3, h4⟩ := sep_cons.1 h
  exact sep_cons.2 ⟨⟨rmap_of h1, h2⟩, h3, h4⟩

theorem sep_mapSame {B : Nat} {W : World} {g n : Nat} {l : List (Int × Value)} {r : List Ast} {p : Int × Value} (h : Sep B W (mapA g l n :: r)) (hs : (fstR l p.1).isSome = true) : Sep B W (mapA g (l ++ [p]) n :: r) := by
  obtain ⟨⟨h1, h2⟩, h3, h4⟩ := sep_cons.1 h
  exact sep_cons.2 ⟨⟨rmap_same h1 p hs, h2⟩, h3, h4⟩

/-- readers by their Ids, in order: what each sees, as a value -/
def ridL : List (Int × Mt) → List Value → List (Int × Value)
  | r :: rs, u :: us => (r.1, .agg #[.int .i64 r.2.tx, .int .i64 r.2.root, .int .i64 r.2.next, u]) :: ridL rs us
  | _, _ => []

theorem ridL_snoc : ∀ (rs : List (Int × Mt)) (us : List Value) (r : Int × Mt) (u : Value), us.length = rs.length → ridL (rs ++ [r]) (us ++ [u]) = ridL rs us ++ [(r.1, .agg #[.int .i64 r.2.tx, .int .i64 r.2.root, .int .i64 r.2.next, u])]
  | [], [], _, _, _ => rfl
  | [], _ :: _, _, _, h => by simp at h
  | _ :: _, [], _, _, h => by simp at h
  | q :: rs, x :: us, r, u, h => by
    simp only [List.cons_append, ridL]
    rw [ridL_snoc rs us r u (by simpa using h)]

/-- what a look-up answers is a meta's four cells -/
theorem ridL_form : ∀ (rs : List (Int × Mt)) (us : List Value) (id : Int), (∀ u ∈ us, u.oneCell' = true) → ∃ cv : Array Value, (fstR (ridL rs us) id).getD (.agg #[.int .i64 0, .int .i64 0, .int .i64 0, .slice none 0 0]) = .agg cv ∧ cv.size = 4 ∧ cv.toList.all (·.oneCell') = true
  | [], _, _, _ => ⟨_, rfl, rfl, rfl⟩
  | _ :: _, [], _, _ => ⟨_, rfl, rfl, rfl⟩
  | r :: rs, u :: us, id, h => by
    rw [ridL, fstR]
    by_cases e : r.1 = id
    · rw [if_pos e]
      exact ⟨_, rfl, rfl, by have hu := h u (List.mem_cons_self ..); show (true && (true && (true && (u.oneCell' && true)))) = true; rw [hu]; rfl⟩
    · rw [if_neg e]
      exact ridL_form rs us id (fun x hx => h x (List.mem_cons_of_mem _ hx))

theorem own_atE {w : World} {B e sz n : Nat} {v : Value} {xs : List Value} (h : w.ownsRow B e sz v n xs) (hn : 0 < n) : ∃ g c, v = .slice (some ⟨g, 0, none⟩) n c := by
  rcases h.2 with ⟨_, h0⟩ | ⟨g, c, _, e, _⟩
  · omega
  · exact ⟨g, c, e⟩

/-- the frees' slices of readers of one's own -/
theorem rds_form {W : World} {B : Nat} {v : Value} {us : List (Value × List (Int × Value))} {rs : List (Int × Mt)} (h : Sep B W (rdsL B v us rs)) {k : Nat} {id : Int} {m : Mt} (hm : rs[k]? = some (id, m)) {u : Value} (hu : (us.map Prod.fst)[k]? = some u) : ∃ a c, u = .slice a m.fs.length c := by
  rw [List.getElem?_map] at hu
  obtain ⟨x, hx, rfl⟩ := Option.map_eq_some_iff.1 hu
  have h1 : (rdsL B v us rs)[k + 1]? = some (freesA B x.1 x.2 m.fs) := by
    rw [rdsL, List.getElem?_cons_succ]
    exact frL_at hx hm
  exact own_slice (sep_get h (k + 1) h1).1

theorem rds_one {W : World} {B : Nat} {v : Value} {us : List (Value × List (Int × Value))} {rs : List (Int × Mt)} (h : Sep B W (rdsL B v us rs)) (hl : us.length = rs.length) : ∀ u ∈ us.map Prod.fst, u.oneCell' = true := fun u hu => by
  obtain ⟨k, hk, e⟩ := List.getElem_of_mem hu
  have h1 : (us.map Prod.fst)[k]? = some u := by rw [List.getElem?_eq_getElem hk, e]
  have hk' : k < rs.length := by rw [List.length_map] at hk; omega
  obtain ⟨a, c, rfl⟩ := rds_form h (id := rs[k].1) (m := rs[k].2) (by rw [List.getElem?_eq_getElem hk']) h1
  rfl

/-- what enter leaves: the hall's cells, the readers by their Ids, the store's things -/
def EnPost (w : World) (s : St) (e : Ending) (w' : World) : Prop := ∃ (B gh gm nk : Nat) (p1 : Option Addr) (q1 : Nat) (p2 : Option Addr) (q2 : Nat) (p3 : Option Addr) (q3 : Nat) (p4 : Option Addr) (q4 : Nat) (p5 : Option Addr) (q5 : Nat) (p6 : Option Addr) (q6 : Nat) (p7 : Option Addr) (q7 : Nat) (p8 : Option Addr) (q8 : Nat) (p9 : Option Addr) (q9 : Nat) (p10 : Option Addr) (q10 : Nat) (l1 l2 : List (Int × Value)) (us : List (Value × List (Int × Value))),
  e = .returned (.pointer (some ⟨gh, 0, none⟩)) ∧ B = w.heap.size ∧ us.length = s.rs.length ∧
  Sep B w' [cellA gh (Obj.cells #[.int .i32 1, .int .u32 0, .slice p1 s.ps.length q1, .slice p2 s.ls.length q2, .int .i64 s.m.tx, .int .i64 s.m.root, .int .i64 s.m.next, .slice p3 s.m.fs.length q3, .slice p4 s.rs.length q4, .int .i64 s.tm.tx, .int .i64 s.tm.root, .int .i64 s.tm.next, .slice p5 s.tm.fs.length q5, .slice p6 s.tk.ps.length q6, .slice p7 s.tk.ls.length q7, .int .i64 s.tk.next, .slice p8 s.tk.us.length q8, .slice p9 s.tk.gs.length q9, .slice p10 s.tk.fs.length q10, .int .i64 s.tr, .bool s.wr, .bool s.fl, .map (some gm)] 80), mapA gm (ridL s.rs (us.map Prod.fst)) nk, diskA B (.agg #[.slice p1 s.ps.length q1, .slice p2 s.ls.length q2]) s.ps s.ls, freesA B (.slice p3 s.m.fs.length q3) l1 s.m.fs, packA B (rdsL B (.slice p4 s.rs.length q4) us s.rs), freesA B (.slice p5 s.tm.fs.length q5) l2 s.tm.fs, workA B (.agg #[.slice p6 s.tk.ps.length q6, .slice p7 s.tk.ls.length q7, .int .i64 s.tk.next, .slice p8 s.tk.us.length q8, .slice p9 s.tk.gs.length q9, .slice p10 s.tk.fs.length q10]) s.tk] ∧ (∀ u ∈ us.map Prod.fst, u.oneCell' = true) ∧ Below w.heap.size w w'

set_option maxHeartbeats 16000000 in
set_option maxRecDepth 100000 in
theorem implEnter_any (v : Value) (s : St) (hs : s.small) (hid : ∀ r ∈ s.rs, (Lit.int .i64 r.1).wf = true) (w : World) (hd : StAt w v s) :
    Calls Tryz.prog 19 #[v] w fun e w' => EnPost w s e w' := by
  have HC := hide (fun u wx h => implSCopy_any u s hs wx h)
  have HSt := hide hd
  have HIds := hide hid
  have hl := hs.2.2.1.1
  obtain ⟨cs, rfl, hn⟩ := st_arr hd
  have HN : Hid ((Tryz.prog.info? 52).map (·.size) = some cs.size) := hide (by rw [hn]; exact Tryz.sizeStore)
  clear hs hd hn hid
  obtain ⟨L, hL⟩ : ∃ n, n = s.rs.length := ⟨_, rfl⟩
  rw [← hL] at hl
  have HL := hide hL
  obtain ⟨a0, ha0⟩ : ∃ a, a = w.heap.size := ⟨_, rfl⟩
  obtain ⟨gm, hgm⟩ : ∃ g, g = a0 + 1 := ⟨_, rfl⟩
  obtain ⟨gh, hgh⟩ : ∃ g, g = a0 + 1 + 1 := ⟨_, rfl⟩
  have hS0 := sep_new (sep_mapNew (sep_new (sep_new (sep_nil w.heap.size w) (Obj.cells cs 52) (Nat.le_refl _)) (Obj.map #[] 0) (by simp))) (Obj.cells #[.int .i32 0, .int .u32 0, .slice none 0 0, .slice none 0 0, .int .i64 0, .int .i64 0, .int .i64 0, .slice none 0 0, .slice none 0 0, .int .i64 0, .int .i64 0, .int .i64 0, .slice none 0 0, .slice none 0 0, .slice none 0 0, .int .i64 0, .slice none 0 0, .slice none 0 0, .slice none 0 0, .int .i64 0, .bool false, .bool false, .map (some gm)] 80) (by simp; omega)
  obtain ⟨w0, hw0⟩ : ∃ w0, w0 = ((w.alloc (Obj.cells cs 52)).alloc (Obj.map #[] 0)).alloc (Obj.cells #[.int .i32 0, .int .u32 0, .slice none 0 0, .slice none 0 0, .int .i64 0, .int .i64 0, .int .i64 0, .slice none 0 0, .slice none 0 0, .int .i64 0, .int .i64 0, .int .i64 0, .slice none 0 0, .slice none 0 0, .slice none 0 0, .int .i64 0, .slice none 0 0, .slice none 0 0, .slice none 0 0, .int .i64 0, .bool false, .bool false, .map (some gm)] 80) := ⟨_, rfl⟩
  rw [World.size_alloc, World.size_alloc, ← hw0, ← ha0, ← hgh, ← hgm] at hS0
  have HS_w0 := hide hS0
  have HB_w0 : Hid (Below w.heap.size w w0) := hide (by rw [hw0]; exact (((Below.refl w.heap.size w).alloc (Nat.le_refl _) _).alloc (by simp) _).alloc (by simp; omega) _)
  have HZ_w0 : Hid (a0 ≤ w0.heap.size) := hide (by rw [hw0, ha0]; simp; omega)
  have HA := hide ha0
  have HGh : Hid (w.heap.size ≤ gh) := hide (by omega)
  have hmm := @run_makeMap Tryz.prog
  clear hS0 hL
  go_enter Tryz.func19, Tryz.ntmps19
  go_upto_region 2 with fail
  rw [← ha0, ← hgh, ← hgm, ← hw0]
  clear hw0 hgm hgh ha0 hmm
  have hc0 : w0.cell? ⟨gh, 0, none⟩ = some (.int .i32 0) := (cell_at (sep_get HS_w0.out 0 rfl : w0.heap[gh]? = some (Obj.cells #[.int .i32 0, .int .u32 0, .slice none 0 0, .slice none 0 0, .int .i64 0, .int .i64 0, .int .i64 0, .slice none 0 0, .slice none 0 0, .int .i64 0, .int .i64 0, .int .i64 0, .slice none 0 0, .slice none 0 0, .slice none 0 0, .int .i64 0, .slice none 0 0, .slice none 0 0, .slice none 0 0, .int .i64 0, .bool false, .bool false, .map (some gm)] 80)) 0).1
  have hz0 : w0.frozen? ⟨gh, 0, none⟩ = false := (cell_at (sep_get HS_w0.out 0 rfl : w0.heap[gh]? = some (Obj.cells #[.int .i32 0, .int .u32 0, .slice none 0 0, .slice none 0 0, .int .i64 0, .int .i64 0, .int .i64 0, .slice none 0 0, .slice none 0 0, .int .i64 0, .int .i64 0, .int .i64 0, .slice none 0 0, .slice none 0 0, .slice none 0 0, .int .i64 0, .slice none 0 0, .slice none 0 0, .slice none 0 0, .int .i64 0, .bool false, .bool false, .map (some gm)] 80)) 0).2
  have HLock := hide (lock_free muLib ⟨gh, 0, none⟩ w0 hc0 hz0)
  clear hc0 hz0
  go_wp2_with fail
  refine HLock.out.mono ?_
  rintro e w1 ⟨rfl, hw1⟩
  have HS_w1 : Hid (Sep a0 w1 [cellA gh (Obj.cells #[.int .i32 1, .int .u32 0, .slice none 0 0, .slice none 0 0, .int .i64 0, .int .i64 0, .int .i64 0, .slice none 0 0, .slice none 0 0, .int .i64 0, .int .i64 0, .int .i64 0, .slice none 0 0, .slice none 0 0, .slice none 0 0, .int .i64 0, .slice none 0 0, .slice none 0 0, .slice none 0 0, .int .i64 0, .bool false, .bool false, .map (some gm)] 80), mapA gm [] 0, cellA a0 (Obj.cells cs 52)]) := hide (by rw [hw1]; exact sep_store HS_w0.out 0 rfl 0 (.int .i32 1))
  have HB_w1 : Hid (Below w.heap.size w w1) := hide (by rw [hw1]; exact HB_w0.out.setCell (p := ⟨gh, 0, none⟩) HGh.out _)
  have HZ_w1 : Hid (a0 ≤ w1.heap.size) := hide (by rw [hw1]; have := HZ_w0.out; simp; omega)
  have HRg : Hid (w1.rangeAt a0 0 cs.toList) := hide (range_all (sep_get HS_w1.out 2 rfl : w1.heap[a0]? = some (Obj.cells cs 52)))
  clear hw1 HLock
  go_wp2_with ((with_reducible refine wpList_loadL ?_ 52 (.tmp 1) ?_ a0 0 ?_ cs HRg.out _ Tryz.underlying52 ?_ ?_ ?_); exact rfl; exact rfl; exact rfl; exact rfl; exact HN.out)
  refine (HC.out _ w1 (st_below HSt.out HB_w1.out)).mono ?_
  rintro e w2 ⟨v', rfl, ho, hb⟩
  obtain ⟨LL, ht, hs2⟩ := sep_st HS_w1.out hb ho HZ_w1.out
  obtain ⟨p1, q1, p2, q2, p3, q3, p4, q4, p5, q5, p6, q6, p7, q7, p8, q8, p9, q9, p10, q10, l1, l2, us, hu, ev, el⟩ := ht
  subst ev el
  have hs2 := sep_unpack hs2
  have HU := hide hu
  have HB_w2 : Hid (Below w.heap.size w w2) := hide (HB_w1.out.trans (hb.mono HB_w1.out.size))
  have HZ_w2 : Hid (a0 ≤ w2.heap.size) := hide (Nat.le_trans HZ_w1.out hb.size)
  have hs3 : Sep a0 w2 [cellA gh (Obj.cells #[.int .i32 1, .int .u32 0, .slice none 0 0, .slice none 0 0, .int .i64 0, .int .i64 0, .int .i64 0, .slice none 0 0, .slice none 0 0, .int .i64 0, .int .i64 0, .int .i64 0, .slice none 0 0, .slice none 0 0, .slice none 0 0, .int .i64 0, .slice none 0 0, .slice none 0 0, .slice none 0 0, .int .i64 0, .bool false, .bool false, .map (some gm)] 80), mapA gm [] 0, diskA a0 (.agg #[.slice p1 s.ps.length q1, .slice p2 s.ls.length q2]) s.ps s.ls, freesA a0 (.slice p3 s.m.fs.length q3) l1 s.m.fs, packA a0 (rdsL a0 (.slice p4 s.rs.length q4) us s.rs), freesA a0 (.slice p5 s.tm.fs.length q5) l2 s.tm.fs, workA a0 (.agg #[.slice p6 s.tk.ps.length q6, .slice p7 s.tk.ls.length q7, .int .i64 s.tk.next, .slice p8 s.tk.us.length q8, .slice p9 s.tk.gs.length q9, .slice p10 s.tk.fs.length q10]) s.tk] := sep_pick (pre := [_, _, _, _, _, _, _, _]) (rest := []) hs2 [5, 6, 0, 1, 2, 3, 4] (by decide) [_, _, _, _, _, _, _] rfl
  have HS_w2 := hide hs3
  have HUs : Hid (∀ u ∈ us.map Prod.fst, u.oneCell' = true) := hide (fun u hu => ?us1)
  case us1 => exact rds_one (sep_get HS_w2.out 4 rfl) HU.out u hu
  clear ho hb hs2 hs3 hu HRg HC HSt
  obtain ⟨w3, hw3⟩ : ∃ wx, wx = w2.setCells gh 2 (#[.slice p1 s.ps.length q1, .slice p2 s.ls.length q2, .int .i64 s.m.tx, .int .i64 s.m.root, .int .i64 s.m.next, .slice p3 s.m.fs.length q3, .slice p4 s.rs.length q4, .int .i64 s.tm.tx, .int .i64 s.tm.root, .int .i64 s.tm.next, .slice p5 s.tm.fs.length q5, .slice p6 s.tk.ps.length q6, .slice p7 s.tk.ls.length q7, .int .i64 s.tk.next, .slice p8 s.tk.us.length q8, .slice p9 s.tk.gs.length q9, .slice p10 s.tk.fs.length q10, .int .i64 s.tr, .bool s.wr, .bool s.fl] : Array Value).toList := ⟨_, rfl⟩
  have HTh : Hid (w2.there gh 2 (#[.slice p1 s.ps.length q1, .slice p2 s.ls.length q2, .int .i64 s.m.tx, .int .i64 s.m.root, .int .i64 s.m.next, .slice p3 s.m.fs.length q3, .slice p4 s.rs.length q4, .int .i64 s.tm.tx, .int .i64 s.tm.root, .int .i64 s.tm.next, .slice p5 s.tm.fs.length q5, .slice p6 s.tk.ps.length q6, .slice p7 s.tk.ls.length q7, .int .i64 s.tk.next, .slice p8 s.tk.us.length q8, .slice p9 s.tk.gs.length q9, .slice p10 s.tk.fs.length q10, .int .i64 s.tr, .bool s.wr, .bool s.fl] : Array Value).size) := hide (there_of (sep_get HS_w2.out 0 rfl : w2.heap[gh]? = some (Obj.cells #[.int .i32 1, .int .u32 0, .slice none 0 0, .slice none 0 0, .int .i64 0, .int .i64 0, .int .i64 0, .slice none 0 0, .slice none 0 0, .int .i64 0, .int .i64 0, .int .i64 0, .slice none 0 0, .slice none 0 0, .slice none 0 0, .int .i64 0, .slice none 0 0, .slice none 0 0, .slice none 0 0, .int .i64 0, .bool false, .bool false, .map (some gm)] 80)) 2 20 (show 2 + 20 ≤ 23 by decide))
  have HS_w3 : Hid (Sep a0 w3 [cellA gh (Obj.cells #[.int .i32 1, .int .u32 0, .slice p1 s.ps.length q1, .slice p2 s.ls.length q2, .int .i64 s.m.tx, .int .i64 s.m.root, .int .i64 s.m.next, .slice p3 s.m.fs.length q3, .slice p4 s.rs.length q4, .int .i64 s.tm.tx, .int .i64 s.tm.root, .int .i64 s.tm.next, .slice p5 s.tm.fs.length q5, .slice p6 s.tk.ps.length q6, .slice p7 s.tk.ls.length q7, .int .i64 s.tk.next, .slice p8 s.tk.us.length q8, .slice p9 s.tk.gs.length q9, .slice p10 s.tk.fs.length q10, .int .i64 s.tr, .bool s.wr, .bool s.fl, .map (some gm)] 80), mapA gm [] 0, diskA a0 (.agg #[.slice p1 s.ps.length q1, .slice p2 s.ls.length q2]) s.ps s.ls, freesA a0 (.slice p3 s.m.fs.length q3) l1 s.m.fs, packA a0 (rdsL a0 (.slice p4 s.rs.length q4) us s.rs), freesA a0 (.slice p5 s.tm.fs.length q5) l2 s.tm.fs, workA a0 (.agg #[.slice p6 s.tk.ps.length q6, .slice p7 s.tk.ls.length q7, .int .i64 s.tk.next, .slice p8 s.tk.us.length q8, .slice p9 s.tk.gs.length q9, .slice p10 s.tk.fs.length q10]) s.tk]) := hide (by rw [hw3]; exact sep_cellsTo HS_w2.out 0 rfl 2 (#[.slice p1 s.ps.length q1, .slice p2 s.ls.length q2, .int .i64 s.m.tx, .int .i64 s.m.root, .int .i64 s.m.next, .slice p3 s.m.fs.length q3, .slice p4 s.rs.length q4, .int .i64 s.tm.tx, .int .i64 s.tm.root, .int .i64 s.tm.next, .slice p5 s.tm.fs.length q5, .slice p6 s.tk.ps.length q6, .slice p7 s.tk.ls.length q7, .int .i64 s.tk.next, .slice p8 s.tk.us.length q8, .slice p9 s.tk.gs.length q9, .slice p10 s.tk.fs.length q10, .int .i64 s.tr, .bool s.wr, .bool s.fl] : Array Value).toList #[.int .i32 1, .int .u32 0, .slice p1 s.ps.length q1, .slice p2 s.ls.length q2, .int .i64 s.m.tx, .int .i64 s.m.root, .int .i64 s.m.next, .slice p3 s.m.fs.length q3, .slice p4 s.rs.length q4, .int .i64 s.tm.tx, .int .i64 s.tm.root, .int .i64 s.tm.next, .slice p5 s.tm.fs.length q5, .slice p6 s.tk.ps.length q6, .slice p7 s.tk.ls.length q7, .int .i64 s.tk.next, .slice p8 s.tk.us.length q8, .slice p9 s.tk.gs.length q9, .slice p10 s.tk.fs.length q10, .int .i64 s.tr, .bool s.wr, .bool s.fl, .map (some gm)] (by kernel_rfl))
  have HB_w3 : Hid (Below w.heap.size w w3) := hide (by rw [hw3]; exact below_cells HGh.out _ 2 w2 HB_w2.out)
  have HZ_w3 : Hid (a0 ≤ w3.heap.size) := hide (by rw [hw3, size_cells]; exact HZ_w2.out)
  have HW3 := hide hw3.symm
  clear hw3
  go_upto_region 4 with ((with_reducible refine wpList_storeL ?_ 52 (.tmp 19) (.tmp 17) ?_ gh 2 #[.slice p1 s.ps.length q1, .slice p2 s.ls.length q2, .int .i64 s.m.tx, .int .i64 s.m.root, .int .i64 s.m.next, .slice p3 s.m.fs.length q3, .slice p4 s.rs.length q4, .int .i64 s.tm.tx, .int .i64 s.tm.root, .int .i64 s.tm.next, .slice p5 s.tm.fs.length q5, .slice p6 s.tk.ps.length q6, .slice p7 s.tk.ls.length q7, .int .i64 s.tk.next, .slice p8 s.tk.us.length q8, .slice p9 s.tk.gs.length q9, .slice p10 s.tk.fs.length q10, .int .i64 s.tr, .bool s.wr, .bool s.fl] ?_ ?_ HTh.out ?_ ?_ HW3.out ?_); exact rfl; exact rfl; exact rfl; exact rfl; exact Tryz.sizeStore; exact rfl)
  rw [← HL.out] at HS_w3
  have hx8 : w3.cell? ⟨gh, 8, none⟩ = some (.slice p4 L q4) := (cell_at (sep_get HS_w3.out 0 rfl : w3.heap[gh]? = some (Obj.cells #[.int .i32 1, .int .u32 0, .slice p1 s.ps.length q1, .slice p2 s.ls.length q2, .int .i64 s.m.tx, .int .i64 s.m.root, .int .i64 s.m.next, .slice p3 s.m.fs.length q3, .slice p4 L q4, .int .i64 s.tm.tx, .int .i64 s.tm.root, .int .i64 s.tm.next, .slice p5 s.tm.fs.length q5, .slice p6 s.tk.ps.length q6, .slice p7 s.tk.ls.length q7, .int .i64 s.tk.next, .slice p8 s.tk.us.length q8, .slice p9 s.tk.gs.length q9, .slice p10 s.tk.fs.length q10, .int .i64 s.tr, .bool s.wr, .bool s.fl, .map (some gm)] 80)) 8).1
  clear HS_w2 HB_w2 HZ_w2 HTh HW3 HS_w1 HB_w1 HZ_w1 HS_w0 HB_w0 HZ_w0
  go_wp2_with fail
  go_loopg [26] L (fun g iv wr => ∃ (k nk : Nat), k ≤ L ∧ iv = .int .i64 (k : Int) ∧ g + k = L ∧ nk ≤ k ∧ Hid (Sep a0 wr [cellA gh (Obj.cells #[.int .i32 1, .int .u32 0, .slice p1 s.ps.length q1, .slice p2 s.ls.length q2, .int .i64 s.m.tx, .int .i64 s.m.root, .int .i64 s.m.next, .slice p3 s.m.fs.length q3, .slice p4 L q4, .int .i64 s.tm.tx, .int .i64 s.tm.root, .int .i64 s.tm.next, .slice p5 s.tm.fs.length q5, .slice p6 s.tk.ps.length q6, .slice p7 s.tk.ls.length q7, .int .i64 s.tk.next, .slice p8 s.tk.us.length q8, .slice p9 s.tk.gs.length q9, .slice p10 s.tk.fs.length q10, .int .i64 s.tr, .bool s.wr, .bool s.fl, .map (some gm)] 80), mapA gm (ridL (s.rs.take k) ((us.map Prod.fst).take k)) nk, diskA a0 (.agg #[.slice p1 s.ps.length q1, .slice p2 s.ls.length q2]) s.ps s.ls, freesA a0 (.slice p3 s.m.fs.length q3) l1 s.m.fs, packA a0 (rdsL a0 (.slice p4 L q4) us s.rs), freesA a0 (.slice p5 s.tm.fs.length q5) l2 s.tm.fs, workA a0 (.agg #[.slice p6 s.tk.ps.length q6, .slice p7 s.tk.ls.length q7, .int .i64 s.tk.next, .slice p8 s.tk.us.length q8, .slice p9 s.tk.gs.length q9, .slice p10 s.tk.fs.length q10]) s.tk]) ∧ Hid (Below w.heap.size w wr) ∧ Hid (a0 ≤ wr.heap.size))
  case atStart => exact ⟨0, 0, Nat.zero_le _, rfl, rfl, Nat.le_refl _, HS_w3, HB_w3, HZ_w3⟩
  case round =>
    obtain ⟨k, nk, hk, rfl, hg, hnk, HS_wr, HB_wr, HZ_wr⟩ := hrel
    have HG := hide hg
    clear hg hx8 HS_w3 HB_w3 HZ_w3
    by_cases hlt : k < L
    · obtain ⟨id, m, hm⟩ : ∃ id m, s.rs[k]? = some (id, m) := ⟨_, _, List.getElem?_eq_getElem (by rw [← HL.out]; exact hlt)⟩
      obtain ⟨uk, huk⟩ : ∃ u, (us.map Prod.fst)[k]? = some u := ⟨_, List.getElem?_eq_getElem (by rw [List.length_map, HU.out, ← HL.out]; exact hlt)⟩
      have hpk := sep_get (sep_get HS_wr.out 4 rfl) 0 rfl
      rw [← HL.out] at hpk
      obtain ⟨b, c', ex⟩ := own_atE hpk (by omega)
      simp only [Value.slice.injEq, true_and] at ex
      obtain ⟨rfl, -⟩ := ex
      obtain ⟨t0, t1, t2, t3, t4⟩ := rds_at s.rs (us.map Prod.fst) k _ uk hm huk
      have HId := hide (HIds.out _ (List.mem_of_getElem? hm))
      obtain ⟨ya, yc, hyu⟩ : ∃ a c, uk = .slice a m.fs.length c := rds_form (sep_get HS_wr.out 4 rfl) hm huk
      subst hyu
      have e0 : wr.cell? ⟨b, k * 5, none⟩ = some (.int .i64 id) := (hpk.cellAt (k * 5) (by omega)).trans t0
      have e1 : wr.cell? ⟨b, k * 5 + 1, none⟩ = some (.int .i64 m.tx) := (hpk.cellAt (k * 5 + 1) (by omega)).trans t1
      have e2 : wr.cell? ⟨b, k * 5 + 2, none⟩ = some (.int .i64 m.root) := (hpk.cellAt (k * 5 + 2) (by omega)).trans t2
      have e3 : wr.cell? ⟨b, k * 5 + 3, none⟩ = some (.int .i64 m.next) := (hpk.cellAt (k * 5 + 3) (by omega)).trans t3
      have e4 : wr.cell? ⟨b, k * 5 + 4, none⟩ = some (.slice ya m.fs.length yc) := (hpk.cellAt (k * 5 + 4) (by omega)).trans t4
      have HRid : Hid (ridL (s.rs.take (k + 1)) ((us.map Prod.fst).take (k + 1)) = ridL (s.rs.take k) ((us.map Prod.fst).take k) ++ [(id, (.agg #[.int .i64 m.tx, .int .i64 m.root, .int .i64 m.next, .slice ya m.fs.length yc]))]) := hide (by
        rw [take_nextI s.rs k _ hm, take_nextI (us.map Prod.fst) k _ huk]
        exact ridL_snoc _ _ _ _ (by rw [List.length_take, List.length_take, List.length_map, HU.out]))
      obtain ⟨cv, hcv, hcn, hco⟩ := ridL_form (s.rs.take k) ((us.map Prod.fst).take k) id (fun u hu => HUs.out u (List.mem_of_mem_take hu))
      obtain ⟨lk, hlk⟩ : ∃ l, l = ridL (s.rs.take k) ((us.map Prod.fst).take k) := ⟨_, rfl⟩
      rw [← hlk] at hcv HRid HS_wr
      have HCv := hide (⟨hcn, hco⟩ : _ ∧ _)
      obtain ⟨ft, hft⟩ : ∃ b, b = (fstR lk id).isSome := ⟨_, rfl⟩
      have HLk : Hid (∀ wx : World, RMap wx gm lk nk → (Instr.lookup 78 (.map (some gm)) (.int .i64 id) true).run Tryz.prog wx = .ok (.tuple #[.agg cv, .bool ft]) wx) := hide (fun wx h => by rw [rmap_look h id HId.out, hcv, hft])
      have HFt := hide hft.symm
      clear hcv hcn hco hft hlk hm huk t0 t1 t2 t3 t4 hpk
      have hk0 : (0 : Int) ≤ (k : Int) := by omega
      have hk1 : (k : Int) < (L : Int) := by omega
      obtain ⟨gr, hgr⟩ : ∃ g, g = wr.heap.size := ⟨_, rfl⟩
      obtain ⟨w2, hw2⟩ : ∃ wx, wx = wr.alloc (Obj.cells #[.int .i64 id, .int .i64 m.tx, .int .i64 m.root, .int .i64 m.next, .slice ya m.fs.length yc] 64) := ⟨_, rfl⟩
      have hs2 := sep_new HS_wr.out (Obj.cells #[.int .i64 id, .int .i64 m.tx, .int .i64 m.root, .int .i64 m.next, .slice ya m.fs.length yc] 64) HZ_wr.out
      rw [← hw2, ← hgr] at hs2
      have HS_w2 := hide hs2
      have HB_w2 : Hid (Below w.heap.size w w2) := hide (by rw [hw2]; exact HB_wr.out.alloc HB_wr.out.size _)
      have HZ_w2 : Hid (a0 ≤ w2.heap.size) := hide (by rw [hw2]; have := HZ_wr.out; simp; omega)
      clear hs2
      go_upto_region 7 with fail
      rw [← hgr, ← hw2]
      clear hgr hw2 e0 e1 e2 e3 e4
      obtain ⟨wd, hwd⟩ : ∃ wd, wd = w2.drew := ⟨_, rfl⟩
      have HS_wd := hide (sep_drew HS_w2.out)
      have HB_wd := hide HB_w2.out.drew
      have HZ_wd : Hid (a0 ≤ w2.drew.heap.size) := HZ_w2
      rw [← hwd] at HS_wd HB_wd HZ_wd
      have HSw : Hid (∀ wx : World, wx.heap[gh]? = some (Obj.cells #[.int .i32 1, .int .u32 0, .slice p1 s.ps.length q1, .slice p2 s.ls.length q2, .int .i64 s.m.tx, .int .i64 s.m.root, .int .i64 s.m.next, .slice p3 s.m.fs.length q3, .slice (some ⟨b, 0, none⟩) L q4, .int .i64 s.tm.tx, .int .i64 s.tm.root, .int .i64 s.tm.next, .slice p5 s.tm.fs.length q5, .slice p6 s.tk.ps.length q6, .slice p7 s.tk.ls.length q7, .int .i64 s.tk.next, .slice p8 s.tk.us.length q8, .slice p9 s.tk.gs.length q9, .slice p10 s.tk.fs.length q10, .int .i64 s.tr, .bool s.wr, .bool s.fl, .map (some gm)] 80) → wx.heap[gr]? = some (Obj.cells #[.int .i64 id, .int .i64 m.tx, .int .i64 m.root, .int .i64 m.next, .slice ya m.fs.length yc] 64) → RMap wx gm lk nk → (fun wx => wx.heap[gh]? = some (Obj.cells #[.int .i32 1, .int .u32 0, .slice p1 s.ps.length q1, .slice p2 s.ls.length q2, .int .i64 s.m.tx, .int .i64 s.m.root, .int .i64 s.m.next, .slice p3 s.m.fs.length q3, .slice (some ⟨b, 0, none⟩) L q4, .int .i64 s.tm.tx, .int .i64 s.tm.root, .int .i64 s.tm.next, .slice p5 s.tm.fs.length q5, .slice p6 s.tk.ps.length q6, .slice p7 s.tk.ls.length q7, .int .i64 s.tk.next, .slice p8 s.tk.us.length q8, .slice p9 s.tk.gs.length q9, .slice p10 s.tk.fs.length q10, .int .i64 s.tr, .bool s.wr, .bool s.fl, .map (some gm)] 80) ∧ wx.heap[gr]? = some (Obj.cells #[.int .i64 id, .int .i64 m.tx, .int .i64 m.root, .int .i64 m.next, .slice ya m.fs.length yc] 64) ∧ RMap wx gm lk nk) wx) := hide (fun wx h h1 h2 => ⟨h, h1, h2⟩)
      have hS_wd := HSw.out wd (sep_get HS_wd.out 1 rfl) (sep_get HS_wd.out 0 rfl) (sep_get HS_wd.out 2 rfl)
      refine wp_region_held_drew (S := fun wx => wx.heap[gh]? = some (Obj.cells #[.int .i32 1, .int .u32 0, .slice p1 s.ps.length q1, .slice p2 s.ls.length q2, .int .i64 s.m.tx, .int .i64 s.m.root, .int .i64 s.m.next, .slice p3 s.m.fs.length q3, .slice (some ⟨b, 0, none⟩) L q4, .int .i64 s.tm.tx, .int .i64 s.tm.root, .int .i64 s.tm.next, .slice p5 s.tm.fs.length q5, .slice p6 s.tk.ps.length q6, .slice p7 s.tk.ls.length q7, .int .i64 s.tk.next, .slice p8 s.tk.us.length q8, .slice p9 s.tk.gs.length q9, .slice p10 s.tk.fs.length q10, .int .i64 s.tr, .bool s.wr, .bool s.fl, .map (some gm)] 80) ∧ wx.heap[gr]? = some (Obj.cells #[.int .i64 id, .int .i64 m.tx, .int .i64 m.root, .int .i64 m.next, .slice ya m.fs.length yc] 64) ∧ RMap wx gm lk nk) (by kernel_rfl) (by rw [← hwd]; exact hS_wd) (fun _ => ?_)
      rw [← hwd]
      clear hwd
      refine takeW 0 31 ?_ rfl rfl (by kernel_rfl) (by kernel_rfl) (by kernel_rfl) (fun _ _ _ h => h) (Or.inl ⟨by rfl, ?_⟩) hS_wd ?_
      rotate_left
      · (intro wx hSw; (try dsimp only at hSw); go_simp; try with_reducible rfl)
      simp only [List.setIfInBounds_toArray, List.set_cons_zero, List.set_cons_succ]
      refine takeW 1 32 ?_ rfl rfl (by kernel_rfl) (by kernel_rfl) (by kernel_rfl) (fun _ _ _ h => h) (Or.inl ⟨by rfl, ?_⟩) hS_wd ?_
      rotate_left
      · (intro wx hSw; (try dsimp only at hSw); go_simp; try with_reducible rfl)
      simp only [List.setIfInBounds_toArray, List.set_cons_zero, List.set_cons_succ]
      refine takeW 2 33 ?_ rfl rfl (by kernel_rfl) (by kernel_rfl) (by kernel_rfl) (fun _ _ _ h => h) (Or.inl ⟨by rfl, ?_⟩) hS_wd ?_
      rotate_left
      · (intro wx hSw; (try dsimp only at hSw); go_simp; try with_reducible rfl)
      simp only [List.setIfInBounds_toArray, List.set_cons_zero, List.set_cons_succ]
      refine takeW 3 34 ?_ rfl rfl (by kernel_rfl) (by kernel_rfl) (by kernel_rfl) (fun _ _ _ h => h) (Or.inl ⟨by rfl, ?_⟩) hS_wd ?_
      rotate_left
      · (intro wx hSw; (try dsimp only at hSw); have hx22 : wx.cell? ⟨gh, 22, none⟩ = some (.map (some gm)) := (cell_at hSw.1 22).1; go_simp; try with_reducible rfl)
      simp only [List.setIfInBounds_toArray, List.set_cons_zero, List.set_cons_succ]
      refine takeW 4 35 ?_ rfl rfl (by kernel_rfl) (by kernel_rfl) (by kernel_rfl) (fun _ _ _ h => h) (Or.inl ⟨by rfl, ?_⟩) hS_wd ?_
      rotate_left
      · (intro wx hSw; (try dsimp only at hSw); go_simp; try with_reducible rfl)
      simp only [List.setIfInBounds_toArray, List.set_cons_zero, List.set_cons_succ]
      refine takeW 5 36 ?_ rfl rfl (by kernel_rfl) (by kernel_rfl) (by kernel_rfl) (fun _ _ _ h => h) (Or.inl ⟨by rfl, ?_⟩) hS_wd ?_
      rotate_left
      · (intro wx hSw; (try dsimp only at hSw); have hx0 : wx.cell? ⟨gr, 0, none⟩ = some (.int .i64 id) := (cell_at hSw.2.1 0).1; go_simp; try with_reducible rfl)
      simp only [List.setIfInBounds_toArray, List.set_cons_zero, List.set_cons_succ]
      refine takeW 6 37 ?_ rfl rfl (by kernel_rfl) (by kernel_rfl) (by kernel_rfl) (fun _ _ _ h => h) (Or.inl ⟨by rfl, ?_⟩) hS_wd ?_
      rotate_left
      · (intro wx hSw; (try dsimp only at hSw); have hlk := HLk.out wx hSw.2.2; go_simp; try with_reducible rfl)
      simp only [List.setIfInBounds_toArray, List.set_cons_zero, List.set_cons_succ]
      refine takeW 7 30 ?_ rfl rfl (by kernel_rfl) (by kernel_rfl) (by kernel_rfl) (fun _ _ _ h => h) (Or.inl ⟨by rfl, ?_⟩) hS_wd ?_
      rotate_left
      · (intro wx hSw; (try dsimp only at hSw); go_simp; try with_reducible rfl)
      simp only [List.setIfInBounds_toArray, List.set_cons_zero, List.set_cons_succ]
      refine takeW 8 38 ?_ rfl rfl (by kernel_rfl) (by kernel_rfl) (by kernel_rfl) (fun _ _ _ h => h) (Or.inl ⟨by rfl, ?_⟩) hS_wd ?_
      rotate_left
      · (intro wx hSw; (try dsimp only at hSw); go_simp; try with_reducible rfl)
      simp only [List.setIfInBounds_toArray, List.set_cons_zero, List.set_cons_succ]
      refine takeW 9 39 ?_ rfl rfl (by kernel_rfl) (by kernel_rfl) (by kernel_rfl) (fun _ _ _ h => h) (Or.inl ⟨by rfl, ?_⟩) hS_wd ?_
      rotate_left
      · (intro wx hSw; (try dsimp only at hSw); go_simp; try with_reducible rfl)
      simp only [List.setIfInBounds_toArray, List.set_cons_zero, List.set_cons_succ]
      refine wpAnyH_ready (rs := [10]) (by kernel_rfl) (by simp) ?_
      refine AllReadyH.cons rfl (fun K hK => ?_) AllReadyH.nil
      have hs3 := sep_new HS_wd.out (Obj.cells #[.int .i64 0, .int .i64 0, .int .i64 0, .slice none 0 0] 45) HZ_wd.out
      have hb3 := HB_wd.out.alloc HB_wd.out.size (Obj.cells #[.int .i64 0, .int .i64 0, .int .i64 0, .slice none 0 0] 45)
      have hz3 : a0 ≤ (wd.alloc (Obj.cells #[.int .i64 0, .int .i64 0, .int .i64 0, .slice none 0 0] 45)).heap.size := by have := HZ_wd.out; simp; omega
      have hS3 := HSw.out (wd.alloc (Obj.cells #[.int .i64 0, .int .i64 0, .int .i64 0, .slice none 0 0] 45)) (sep_get hs3 2 rfl) (sep_get hs3 1 rfl) (sep_get hs3 3 rfl)
      go_simp
      refine hK.out _ _ hS3 (fun _ => ?_)
      clear hK K
      obtain ⟨w3, hw3⟩ : ∃ wx, wx = wd.alloc (Obj.cells #[.int .i64 0, .int .i64 0, .int .i64 0, .slice none 0 0] 45) := ⟨_, rfl⟩
      obtain ⟨g3, hg3⟩ : ∃ g, g = wd.heap.size := ⟨_, rfl⟩
      rw [← hw3] at hs3 hb3 hz3 hS3 ⊢
      rw [← hg3] at hs3 ⊢
      have HS_w3 := hide hs3
      have HB_w3 := hide hb3
      have HZ_w3 := hide hz3
      have HG3 := hide (show w.heap.size ≤ g3 by rw [hg3]; exact HB_wd.out.size)
      clear hs3 hb3 hz3 hw3 hg3
      refine wpAnyH_ready (rs := [11]) (by kernel_rfl) (by simp) ?_
      refine AllReadyH.cons rfl (fun K hK => ?_) AllReadyH.nil
      obtain ⟨w4, hw4⟩ : ∃ wx, wx = w3.setCells g3 0 cv.toList := ⟨_, rfl⟩
      have hs4 := sep_cellsAll HS_w3.out 0 rfl cv HCv.out.1
      have hb4 := below_cells HG3.out cv.toList 0 w3 HB_w3.out
      have hz4 : a0 ≤ w4.heap.size := by rw [hw4, size_cells]; exact HZ_w3.out
      rw [← hw4] at hs4 hb4
      have hS4 := HSw.out w4 (sep_get hs4 2 rfl) (sep_get hs4 1 rfl) (sep_get hs4 3 rfl)
      have hth : w3.there g3 0 cv.size := there_of (sep_get HS_w3.out 0 rfl : w3.heap[g3]? = some (Obj.cells #[.int .i64 0, .int .i64 0, .int .i64 0, .slice none 0 0] 45)) 0 cv.size (by rw [HCv.out.1]; decide)
      refine step_storeL ?_ 45 (.tmp 6) (.tmp 38) ?_ g3 0 cv ?_ ?_ hth ?_ ?_ hw4.symm ?_
      · exact rfl
      · exact rfl
      · exact rfl
      · exact rfl
      · rw [HCv.out.1]; exact Tryz.sizeMetaI
      · exact HCv.out.2
      have HS_w4 := hide hs4
      have HB_w4 := hide hb4
      have HZ_w4 := hide hz4
      clear hth hs4 hb4 hz4 hw4
      refine hK.out (Act.put _ none _) _ hS4 (fun _ => ?_)
      clear hK K
      simp only [Act.put]
      refine takeW 12 7 ?_ rfl rfl (by kernel_rfl) (by kernel_rfl) (by kernel_rfl) (fun _ _ _ h => h) (Or.inl ⟨by rfl, ?_⟩) hS4 ?_
      rotate_left
      · (intro wx hSw; (try dsimp only at hSw); go_simp; try with_reducible rfl)
      simp only [List.setIfInBounds_toArray, List.set_cons_zero, List.set_cons_succ]
      refine wpAnyH_done (by kernel_rfl) ?_ _
      clear hS_wd hS3 hS4
      cases ft with
      | true =>
        have HSn : Hid (Sep a0 w4 [cellA gh (Obj.cells #[.int .i32 1, .int .u32 0, .slice p1 s.ps.length q1, .slice p2 s.ls.length q2, .int .i64 s.m.tx, .int .i64 s.m.root, .int .i64 s.m.next, .slice p3 s.m.fs.length q3, .slice (some ⟨b, 0, none⟩) L q4, .int .i64 s.tm.tx, .int .i64 s.tm.root, .int .i64 s.tm.next, .slice p5 s.tm.fs.length q5, .slice p6 s.tk.ps.length q6, .slice p7 s.tk.ls.length q7, .int .i64 s.tk.next, .slice p8 s.tk.us.length q8, .slice p9 s.tk.gs.length q9, .slice p10 s.tk.fs.length q10, .int .i64 s.tr, .bool s.wr, .bool s.fl, .map (some gm)] 80), mapA gm (ridL (s.rs.take (k + 1)) ((us.map Prod.fst).take (k + 1))) nk, diskA a0 (.agg #[.slice p1 s.ps.length q1, .slice p2 s.ls.length q2]) s.ps s.ls, freesA a0 (.slice p3 s.m.fs.length q3) l1 s.m.fs, packA a0 (rdsL a0 (.slice (some ⟨b, 0, none⟩) L q4) us s.rs), freesA a0 (.slice p5 s.tm.fs.length q5) l2 s.tm.fs, workA a0 (.agg #[.slice p6 s.tk.ps.length q6, .slice p7 s.tk.ls.length q7, .int .i64 s.tk.next, .slice p8 s.tk.us.length q8, .slice p9 s.tk.gs.length q9, .slice p10 s.tk.fs.length q10]) s.tk]) := hide (by
          rw [HRid.out]
          have h := sep_pick (pre := [_, _, _, _, _, _, _, _, _]) (rest := []) HS_w4.out [3, 2, 4, 5, 6, 7, 8] (by decide) [_, _, _, _, _, _, _] rfl
          exact sep_pick (pre := [_, _, _, _, _, _, _]) (rest := []) (sep_mapSame (p := (id, (.agg #[.int .i64 m.tx, .int .i64 m.root, .int .i64 m.next, .slice ya m.fs.length yc]))) h HFt.out) [1, 0, 2, 3, 4, 5, 6] (by decide) [_, _, _, _, _, _, _] rfl)
        go_wp2_with fail
        go_roundg (gk - 1)
        case measure => have := HG.out; omega
        case rel => exact ⟨k + 1, nk, by omega, by go_num, by have := HG.out; omega, by omega, HSn, HB_w4, HZ_w4⟩
      | false =>
        go_upto_region 9 with fail
        obtain ⟨wd, hwd⟩ : ∃ wd, wd = w4.drew := ⟨_, rfl⟩
        have HS_wd := hide (sep_drew HS_w4.out)
        have HB_wd := hide HB_w4.out.drew
        have HZ_wd : Hid (a0 ≤ w4.drew.heap.size) := HZ_w4
        rw [← hwd] at HS_wd HB_wd HZ_wd
        have hS_wd : (fun wx => wx.heap[gh]? = some (Obj.cells #[.int .i32 1, .int .u32 0, .slice p1 s.ps.length q1, .slice p2 s.ls.length q2, .int .i64 s.m.tx, .int .i64 s.m.root, .int .i64 s.m.next, .slice p3 s.m.fs.length q3, .slice (some ⟨b, 0, none⟩) L q4, .int .i64 s.tm.tx, .int .i64 s.tm.root, .int .i64 s.tm.next, .slice p5 s.tm.fs.length q5, .slice p6 s.tk.ps.length q6, .slice p7 s.tk.ls.length q7, .int .i64 s.tk.next, .slice p8 s.tk.us.length q8, .slice p9 s.tk.gs.length q9, .slice p10 s.tk.fs.length q10, .int .i64 s.tr, .bool s.wr, .bool s.fl, .map (some gm)] 80) ∧ wx.heap[gr]? = some (Obj.cells #[.int .i64 id, .int .i64 m.tx, .int .i64 m.root, .int .i64 m.next, .slice ya m.fs.length yc] 64)) wd := ⟨sep_get HS_wd.out 2 rfl, sep_get HS_wd.out 1 rfl⟩
        refine wp_region_held_drew (S := fun wx => wx.heap[gh]? = some (Obj.cells #[.int .i32 1, .int .u32 0, .slice p1 s.ps.length q1, .slice p2 s.ls.length q2, .int .i64 s.m.tx, .int .i64 s.m.root, .int .i64 s.m.next, .slice p3 s.m.fs.length q3, .slice (some ⟨b, 0, none⟩) L q4, .int .i64 s.tm.tx, .int .i64 s.tm.root, .int .i64 s.tm.next, .slice p5 s.tm.fs.length q5, .slice p6 s.tk.ps.length q6, .slice p7 s.tk.ls.length q7, .int .i64 s.tk.next, .slice p8 s.tk.us.length q8, .slice p9 s.tk.gs.length q9, .slice p10 s.tk.fs.length q10, .int .i64 s.tr, .bool s.wr, .bool s.fl, .map (some gm)] 80) ∧ wx.heap[gr]? = some (Obj.cells #[.int .i64 id, .int .i64 m.tx, .int .i64 m.root, .int .i64 m.next, .slice ya m.fs.length yc] 64)) (by kernel_rfl) (by rw [← hwd]; exact hS_wd) (fun _ => ?_)
        rw [← hwd]
        clear hwd
        refine takeW 0 42 ?_ rfl rfl (by kernel_rfl) (by kernel_rfl) (by kernel_rfl) (fun _ _ _ h => h) (Or.inl ⟨by rfl, ?_⟩) hS_wd ?_
        rotate_left
        · (intro wx hSw; (try dsimp only at hSw); go_simp; try with_reducible rfl)
        simp only [List.setIfInBounds_toArray, List.set_cons_zero, List.set_cons_succ]
        refine takeW 1 43 ?_ rfl rfl (by kernel_rfl) (by kernel_rfl) (by kernel_rfl) (fun _ _ _ h => h) (Or.inl ⟨by rfl, ?_⟩) hS_wd ?_
        rotate_left
        · (intro wx hSw; (try dsimp only at hSw); go_simp; try with_reducible rfl)
        simp only [List.setIfInBounds_toArray, List.set_cons_zero, List.set_cons_succ]
        refine takeW 2 44 ?_ rfl rfl (by kernel_rfl) (by kernel_rfl) (by kernel_rfl) (fun _ _ _ h => h) (Or.inl ⟨by rfl, ?_⟩) hS_wd ?_
        rotate_left
        · (intro wx hSw; (try dsimp only at hSw); go_simp; try with_reducible rfl)
        simp only [List.setIfInBounds_toArray, List.set_cons_zero, List.set_cons_succ]
        refine takeW 3 45 ?_ rfl rfl (by kernel_rfl) (by kernel_rfl) (by kernel_rfl) (fun _ _ _ h => h) (Or.inl ⟨by rfl, ?_⟩) hS_wd ?_
        rotate_left
        · (intro wx hSw; (try dsimp only at hSw); have hx22 : wx.cell? ⟨gh, 22, none⟩ = some (.map (some gm)) := (cell_at hSw.1 22).1; go_simp; try with_reducible rfl)
        simp only [List.setIfInBounds_toArray, List.set_cons_zero, List.set_cons_succ]
        refine takeW 4 46 ?_ rfl rfl (by kernel_rfl) (by kernel_rfl) (by kernel_rfl) (fun _ _ _ h => h) (Or.inl ⟨by rfl, ?_⟩) hS_wd ?_
        rotate_left
        · (intro wx hSw; (try dsimp only at hSw); go_simp; try with_reducible rfl)
        simp only [List.setIfInBounds_toArray, List.set_cons_zero, List.set_cons_succ]
        refine takeW 5 47 ?_ rfl rfl (by kernel_rfl) (by kernel_rfl) (by kernel_rfl) (fun _ _ _ h => h) (Or.inl ⟨by rfl, ?_⟩) hS_wd ?_
        rotate_left
        · (intro wx hSw; (try dsimp only at hSw); have hx0 : wx.cell? ⟨gr, 0, none⟩ = some (.int .i64 id) := (cell_at hSw.2 0).1; go_simp; try with_reducible rfl)
        simp only [List.setIfInBounds_toArray, List.set_cons_zero, List.set_cons_succ]
        refine takeW 6 48 ?_ rfl rfl (by kernel_rfl) (by kernel_rfl) (by kernel_rfl) (fun _ _ _ h => h) (Or.inl ⟨by rfl, ?_⟩) hS_wd ?_
        rotate_left
        · (intro wx hSw; (try dsimp only at hSw); go_simp; try with_reducible rfl)
        simp only [List.setIfInBounds_toArray, List.set_cons_zero, List.set_cons_succ]
        refine takeW 7 49 (.agg #[.int .i64 m.tx, .int .i64 m.root, .int .i64 m.next, .slice ya m.fs.length yc]) rfl rfl (by kernel_rfl) (by kernel_rfl) (by kernel_rfl) (fun _ _ _ h => h) (yields_loadL (by rfl) 45 (.tmp 48) rfl gr 1 rfl #[.int .i64 m.tx, .int .i64 m.root, .int .i64 m.next, .slice ya m.fs.length yc] _ (fun _ h => range_of h.2 1 4) Tryz.underlying45 rfl Tryz.sizeMetaI) hS_wd ?_
        simp only [List.setIfInBounds_toArray, List.set_cons_zero, List.set_cons_succ]
        refine wpAnyH_ready (rs := [8]) (by kernel_rfl) (by simp) ?_
        refine AllReadyH.cons rfl (fun K hK => ?_) AllReadyH.nil
        refine step_mapPut HS_wd.out 3 rfl HZ_wd.out (by unfold maxLen; omega) rfl (.tmp 45) (.tmp 47) (.tmp 49) rfl rfl id rfl (.agg #[.int .i64 m.tx, .int .i64 m.root, .int .i64 m.next, .slice ya m.fs.length yc]) rfl HId.out (by have h := HFt.out; cases e : fstR lk id with | none => rfl | some u => rw [e] at h; cases h) ?_
        intro w5 hs5 hb5
        have HB_w5 : Hid (Below w.heap.size w w5) := hide (HB_wd.out.trans (by rw [← HA.out]; exact hb5))
        have HZ_w5 : Hid (a0 ≤ w5.heap.size) := hide (Nat.le_trans HZ_wd.out hb5.size)
        have hS5 : (fun wx => wx.heap[gh]? = some (Obj.cells #[.int .i32 1, .int .u32 0, .slice p1 s.ps.length q1, .slice p2 s.ls.length q2, .int .i64 s.m.tx, .int .i64 s.m.root, .int .i64 s.m.next, .slice p3 s.m.fs.length q3, .slice (some ⟨b, 0, none⟩) L q4, .int .i64 s.tm.tx, .int .i64 s.tm.root, .int .i64 s.tm.next, .slice p5 s.tm.fs.length q5, .slice p6 s.tk.ps.length q6, .slice p7 s.tk.ls.length q7, .int .i64 s.tk.next, .slice p8 s.tk.us.length q8, .slice p9 s.tk.gs.length q9, .slice p10 s.tk.fs.length q10, .int .i64 s.tr, .bool s.wr, .bool s.fl, .map (some gm)] 80) ∧ wx.heap[gr]? = some (Obj.cells #[.int .i64 id, .int .i64 m.tx, .int .i64 m.root, .int .i64 m.next, .slice ya m.fs.length yc] 64)) w5 := ⟨sep_get hs5 2 rfl, sep_get hs5 1 rfl⟩
        have HSn : Hid (Sep a0 w5 [cellA gh (Obj.cells #[.int .i32 1, .int .u32 0, .slice p1 s.ps.length q1, .slice p2 s.ls.length q2, .int .i64 s.m.tx, .int .i64 s.m.root, .int .i64 s.m.next, .slice p3 s.m.fs.length q3, .slice (some ⟨b, 0, none⟩) L q4, .int .i64 s.tm.tx, .int .i64 s.tm.root, .int .i64 s.tm.next, .slice p5 s.tm.fs.length q5, .slice p6 s.tk.ps.length q6, .slice p7 s.tk.ls.length q7, .int .i64 s.tk.next, .slice p8 s.tk.us.length q8, .slice p9 s.tk.gs.length q9, .slice p10 s.tk.fs.length q10, .int .i64 s.tr, .bool s.wr, .bool s.fl, .map (some gm)] 80), mapA gm (ridL (s.rs.take (k + 1)) ((us.map Prod.fst).take (k + 1))) (nk + 1), diskA a0 (.agg #[.slice p1 s.ps.length q1, .slice p2 s.ls.length q2]) s.ps s.ls, freesA a0 (.slice p3 s.m.fs.length q3) l1 s.m.fs, packA a0 (rdsL a0 (.slice (some ⟨b, 0, none⟩) L q4) us s.rs), freesA a0 (.slice p5 s.tm.fs.length q5) l2 s.tm.fs, workA a0 (.agg #[.slice p6 s.tk.ps.length q6, .slice p7 s.tk.ls.length q7, .int .i64 s.tk.next, .slice p8 s.tk.us.length q8, .slice p9 s.tk.gs.length q9, .slice p10 s.tk.fs.length q10]) s.tk]) := hide (by
          rw [HRid.out]
          exact sep_pick (pre := [_, _, _, _, _, _, _, _, _]) (rest := []) hs5 [2, 3, 4, 5, 6, 7, 8] (by decide) [_, _, _, _, _, _, _] rfl)
        clear hs5 hb5
        refine hK.out _ _ hS5 (fun _ => ?_)
        clear hK K
        refine wpAnyH_done (by kernel_rfl) ?_ _
        clear hS5 hS_wd
        go_wp2_with fail
        go_roundg (gk - 1)
        case measure => have := HG.out; omega
        case rel => exact ⟨k + 1, nk + 1, by omega, by go_num, by have := HG.out; omega, by omega, HSn, HB_w5, HZ_w5⟩
    · obtain rfl : k = L := by omega
      have HSF : Hid (Sep a0 wr [cellA gh (Obj.cells #[.int .i32 1, .int .u32 0, .slice p1 s.ps.length q1, .slice p2 s.ls.length q2, .int .i64 s.m.tx, .int .i64 s.m.root, .int .i64 s.m.next, .slice p3 s.m.fs.length q3, .slice p4 s.rs.length q4, .int .i64 s.tm.tx, .int .i64 s.tm.root, .int .i64 s.tm.next, .slice p5 s.tm.fs.length q5, .slice p6 s.tk.ps.length q6, .slice p7 s.tk.ls.length q7, .int .i64 s.tk.next, .slice p8 s.tk.us.length q8, .slice p9 s.tk.gs.length q9, .slice p10 s.tk.fs.length q10, .int .i64 s.tr, .bool s.wr, .bool s.fl, .map (some gm)] 80), mapA gm (ridL s.rs (us.map Prod.fst)) nk, diskA a0 (.agg #[.slice p1 s.ps.length q1, .slice p2 s.ls.length q2]) s.ps s.ls, freesA a0 (.slice p3 s.m.fs.length q3) l1 s.m.fs, packA a0 (rdsL a0 (.slice p4 s.rs.length q4) us s.rs), freesA a0 (.slice p5 s.tm.fs.length q5) l2 s.tm.fs, workA a0 (.agg #[.slice p6 s.tk.ps.length q6, .slice p7 s.tk.ls.length q7, .int .i64 s.tk.next, .slice p8 s.tk.us.length q8, .slice p9 s.tk.gs.length q9, .slice p10 s.tk.fs.length q10]) s.tk]) := hide (by
        have h := HS_wr.out
        rw [List.take_of_length_le (by rw [← HL.out]; exact Nat.le_refl _), List.take_of_length_le (by rw [List.length_map, HU.out, ← HL.out]; exact Nat.le_refl _)] at h
        rw [← HL.out]
        exact h)
      go_wp2_with fail
      go_ret
      exact ⟨a0, gh, gm, nk, p1, q1, p2, q2, p3, q3, p4, q4, p5, q5, p6, q6, p7, q7, p8, q8, p9, q9, p10, q10, l1, l2, us, rfl, HA.out, HU.out, HSF.out, HUs.out, HB_wr.out⟩
end Go.Proofs.YtbokjfjdjgopeaaGreatDoor
