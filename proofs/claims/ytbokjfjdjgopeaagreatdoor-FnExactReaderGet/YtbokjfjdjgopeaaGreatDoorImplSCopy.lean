/-
  impl.copyStore by a contract: a store's copy, in memory of its own (made by tools/implscopy.py).
-/
import Derived.Test.YtbokjfjdjgopeaaGreatDoorRgG
import Derived.Test.YtbokjfjdjgopeaaGreatDoorImplMCopy
import Derived.Test.YtbokjfjdjgopeaaGreatDoorImplTCopy
namespace Go.Proofs.YtbokjfjdjgopeaaGreatDoor
open Go.RowKit

theorem mcopyI {m : Mt} (hl : m.fs.length ≤ 1048576) (hs : ∀ f ∈ m.fs, f.2.length ≤ 1048576) : MCopyIAt m := fun u wx h => implMCopy_any u m hl hs wx h

theorem Tryz.sizeMetaI : (Tryz.prog.info? 45).map (·.size) = some 4 := by kernel_rfl

theorem Tryz.sizeDiskI : (Tryz.prog.info? 42).map (·.size) = some 2 := by kernel_rfl

theorem Tryz.sizeTxnI : (Tryz.prog.info? 50).map (·.size) = some 11 := by kernel_rfl

theorem rds_snocI : ∀ (rs : List (Int × Mt)) (us : List Value) (r : Int × Mt) (u : Value), us.length = rs.length → rds (rs ++ [r]) (us ++ [u]) = rds rs us ++ [.int .i64 r.1, .int .i64 r.2.tx, .int .i64 r.2.root, .int .i64 r.2.next, u]
  | [], [], _, _, _ => rfl
  | [], _ :: _, _, _, h => by simp at h
  | _ :: _, [], _, _, h => by simp at h
  | q :: rs, x :: us, r, u, h => by
    simp only [List.cons_append, rds]
    rw [rds_snocI rs us r u (by simpa using h)]

theorem sep_snocI {B : Nat} {W : World} {l rest : List Ast} {A : Ast} (h : Sep B W (l ++ A :: rest)) : Sep B W (packA B (l ++ [A]) :: rest) := sep_pack (by rw [List.append_assoc]; exact h)

theorem cell_sameI {w w' : World} {b i : Nat} (h : w'.heap[b]? = w.heap[b]?) : w'.cell? ⟨b, i, none⟩ = w.cell? ⟨b, i, none⟩ := by
  unfold World.cell?
  simp only [h]

/-- a reader more, in a region that draws its order -/
theorem step_rdI {ops : Array Oper} {o : Oper} {a : Act} {K : Act → World → Prop} {Q : Exit → Act → World → Prop} {E : Prop} {B : Nat} {W : World} {l : List Ast} (h : Sep B W l) (i : Nat) {B' n : Nat} {v : Value} {xs : List Value} (hi : l[i]? = some (rowA B' 64 5 v n xs)) (hBB : B ≤ B') (hBW : B ≤ W.heap.size) (hBW' : B' ≤ W.heap.size)
    (hgd : o.guard = none) (s x : Operand) (ho : o.op = .call { callee := .builtin .append, args := #[s, x], argTypes := #[46, 46] }) (hs : a.eval s = v) (id tx root next : Int) (u : Value) (hu : u.oneCell' = true) {H : Nat} (hH : H = W.heap.size) (hx : a.eval x = .slice (some ⟨H, 0, none⟩) 1 1) (hn : n ≤ 1048576)
    (hK : ∀ b c w', Sep B w' (l.set i (rowA B' 64 5 (.slice (some ⟨b, 0, none⟩) (n + 1) c) (n + 1) (xs ++ [.int .i64 id, .int .i64 tx, .int .i64 root, .int .i64 next, u]))) → Below B W w' → K (a.put o.dst (.slice (some ⟨b, 0, none⟩) (n + 1) c)) w') :
    if Region.wanted o (yielded ops a.tmps) = true then Oper.wp Tryz.prog o a (W.alloc (Obj.cells #[.int .i64 id, .int .i64 tx, .int .i64 root, .int .i64 next, u] 64)) K Q else E := by
  obtain ⟨i0, hinf, hz0, hz1, hz2⟩ := info_parts Tryz.infoReader
  exact step_sep1 h i hi hBB hBW hBW' hgd s x 46 ho i0 (.agg #[.int .i64 0, .int .i64 0, .int .i64 0, .int .i64 0, .slice none 0 0]) 56 Tryz.underlying46 hinf hz0 hz1 hz2 rfl (by decide) hs #[.int .i64 id, .int .i64 tx, .int .i64 root, .int .i64 next, u] hH hx rfl (fun y hy => by simp at hy; rcases hy with rfl | rfl | rfl | rfl | rfl <;> first | rfl | exact hu) (by unfold maxLen; omega) (by omega) (fun b c w' k1 k2 => hK b c w' k1 k2)

set_option maxHeartbeats 32000000 in
set_option maxRecDepth 100000 in
theorem implSCopy_any (v : Value) (s : St) (hs : s.small) (w : World) (hd : StAt w v s) :
    Calls Tryz.prog 40 #[v] w fun e w' => ∃ v', e = .returned v' ∧ StOwn w' w.heap.size v' s ∧ Below w.heap.size w w' := by
  obtain ⟨i1, hi1, hy0, hy1, hy2⟩ := info_parts Tryz.infoReader
  have HCd := hide (fun u wx h => implCopy_any u s.ps s.ls hs.1.1 hs.1.2.2.1 hs.1.2.1 hs.1.2.2.2 wx h)
  have HCm := hide (mcopyI hs.2.1.1 hs.2.1.2)
  have HCt := hide (fun u wx h => implTCopy_of u s.tm (mcopyI hs.2.2.2.1.1 hs.2.2.2.1.2) s.tk (bulkW_in hs.2.2.2.2) s.tr wx h)
  have HCr := hide hs.2.2.1.2
  have hl := hs.2.2.1.1
  obtain ⟨vp, vl, vf, vR, vr, up, ul, uu, ug, uf, rfl, h1, h2, h3, h4⟩ := hd
  obtain ⟨aR, cR, rfl⟩ := rds_slice h3
  obtain ⟨L, hL⟩ : ∃ n, n = s.rs.length := ⟨_, rfl⟩
  rw [← hL] at h3 hl ⊢
  have HD := hide h1
  have HM := hide h2
  have HR := hide h3
  have HT := hide h4
  have HL := hide hL
  clear hs h1 h2 h3 h4 hL
  obtain ⟨a0, ha0⟩ : ∃ a, a = w.heap.size := ⟨_, rfl⟩
  have hS0 := sep_new (sep_new (sep_nil w.heap.size w) (Obj.cells #[vp, vl, .int .i64 s.m.tx, .int .i64 s.m.root, .int .i64 s.m.next, vf, .slice aR L cR, .int .i64 s.tm.tx, .int .i64 s.tm.root, .int .i64 s.tm.next, vr, up, ul, .int .i64 s.tk.next, uu, ug, uf, .int .i64 s.tr, .bool s.wr, .bool s.fl] 52) (Nat.le_refl _)) (Obj.cells #[.slice none 0 0, .slice none 0 0, .int .i64 0, .int .i64 0, .int .i64 0, .slice none 0 0, .slice none 0 0, .int .i64 0, .int .i64 0, .int .i64 0, .slice none 0 0, .slice none 0 0, .slice none 0 0, .int .i64 0, .slice none 0 0, .slice none 0 0, .slice none 0 0, .int .i64 0, .bool false, .bool false] 52) (by simp)
  obtain ⟨w0, hw0⟩ : ∃ w0, w0 = (w.alloc (Obj.cells #[vp, vl, .int .i64 s.m.tx, .int .i64 s.m.root, .int .i64 s.m.next, vf, .slice aR L cR, .int .i64 s.tm.tx, .int .i64 s.tm.root, .int .i64 s.tm.next, vr, up, ul, .int .i64 s.tk.next, uu, ug, uf, .int .i64 s.tr, .bool s.wr, .bool s.fl] 52)).alloc (Obj.cells #[.slice none 0 0, .slice none 0 0, .int .i64 0, .int .i64 0, .int .i64 0, .slice none 0 0, .slice none 0 0, .int .i64 0, .int .i64 0, .int .i64 0, .slice none 0 0, .slice none 0 0, .slice none 0 0, .int .i64 0, .slice none 0 0, .slice none 0 0, .slice none 0 0, .int .i64 0, .bool false, .bool false] 52) := ⟨_, rfl⟩
  rw [World.size_alloc, ← hw0, ← ha0] at hS0
  have HS0 := hide hS0
  have HB0 : Hid (Below w.heap.size w w0) := hide (by rw [hw0]; exact ((Below.refl w.heap.size w).alloc (Nat.le_refl _) _).alloc (by simp) _)
  have HZ0 : Hid (a0 ≤ w0.heap.size) := hide (by rw [hw0, ha0]; simp; omega)
  have HA := hide ha0
  have hx6 : w0.cell? ⟨a0, 6, none⟩ = some (.slice aR L cR) := (cell_at (sep_get HS0.out 1 rfl : w0.heap[a0]? = some (Obj.cells #[vp, vl, .int .i64 s.m.tx, .int .i64 s.m.root, .int .i64 s.m.next, vf, .slice aR L cR, .int .i64 s.tm.tx, .int .i64 s.tm.root, .int .i64 s.tm.next, vr, up, ul, .int .i64 s.tk.next, uu, ug, uf, .int .i64 s.tr, .bool s.wr, .bool s.fl] 52)) 6).1
  clear hS0 ha0
  go_enter Tryz.func40, Tryz.ntmps40
  go_upto_region 1 with fail
  rw [← hw0, ← HA.out]
  clear hw0
  go_wp2_with (at_make; refine wpList_make_own _ rfl _ _ 46 rfl a0 64 i1 (.agg #[.int .i64 0, .int .i64 0, .int .i64 0, .int .i64 0, .slice none 0 0]) 5 Tryz.underlying46 hi1 hy0 hy1 .i64 .i64 _ L rfl rfl rfl (by rw [hy2]; omega) (by unfold maxLen; omega) HZ0.out ?_)
  intro w1 hown1 hg1
  have hb1 : Below w0.heap.size w0 w1 := (Below.refl _ _).grown hg1 (Nat.le_refl _) (fun k hk => by cases hk)
  have hs1 : Sep a0 w1 [rowA a0 64 5 (.slice (some ⟨w0.heap.size, 0, none⟩) 0 L) 0 (rds (s.rs.take 0) (([] : List (Value × List (Int × Value))).map Prod.fst)), packA a0 (frL a0 [] (s.rs.take 0)), cellA (a0 + 1) (Obj.cells #[.slice none 0 0, .slice none 0 0, .int .i64 0, .int .i64 0, .int .i64 0, .slice none 0 0, .slice none 0 0, .int .i64 0, .int .i64 0, .int .i64 0, .slice none 0 0, .slice none 0 0, .slice none 0 0, .int .i64 0, .slice none 0 0, .slice none 0 0, .slice none 0 0, .int .i64 0, .bool false, .bool false] 52), cellA a0 (Obj.cells #[vp, vl, .int .i64 s.m.tx, .int .i64 s.m.root, .int .i64 s.m.next, vf, .slice aR L cR, .int .i64 s.tm.tx, .int .i64 s.tm.root, .int .i64 s.tm.next, vr, up, ul, .int .i64 s.tk.next, uu, ug, uf, .int .i64 s.tr, .bool s.wr, .bool s.fl] 52)] :=
    sep_add (sep_pack (l := frL a0 [] (s.rs.take 0)) HS0.out) hb1 (rowA a0 64 5 (.slice (some ⟨w0.heap.size, 0, none⟩) 0 L) 0 []) hown1 (fun k hk => ⟨Nat.le_of_eq (by injection hk), (hown1.lt k hk).2⟩) HZ0.out
  obtain ⟨x0, hx0⟩ : ∃ x, x = some (⟨w0.heap.size, 0, none⟩ : Addr) := ⟨_, rfl⟩
  rw [← hx0] at hs1 ⊢
  have HS1 := hide hs1
  have HB1 : Hid (Below w.heap.size w w1) := hide (HB0.out.trans (hb1.mono HB0.out.size))
  have HZ1 : Hid (a0 ≤ w1.heap.size) := hide (Nat.le_trans HZ0.out hb1.size)
  have hx6 : w1.cell? ⟨a0, 6, none⟩ = some (.slice aR L cR) := (cell_at (sep_get HS1.out 3 rfl : w1.heap[a0]? = some (Obj.cells #[vp, vl, .int .i64 s.m.tx, .int .i64 s.m.root, .int .i64 s.m.next, vf, .slice aR L cR, .int .i64 s.tm.tx, .int .i64 s.tm.root, .int .i64 s.tm.next, vr, up, ul, .int .i64 s.tk.next, uu, ug, uf, .int .i64 s.tr, .bool s.wr, .bool s.fl] 52)) 6).1
  clear hown1 hg1 hb1 hs1 hx0
  go_wp2_with fail
  go_loopg [3, 13] L (fun g pv iv wr => ∃ (k : Nat) (xR : Option Addr) (yR : Nat) (us : List (Value × List (Int × Value))), k ≤ L ∧ iv = .int .i64 (k : Int) ∧ g + k = L ∧ pv = .slice xR k yR ∧ Hid (us.length = k) ∧ Hid (Sep a0 wr [rowA a0 64 5 (.slice xR k yR) k (rds (s.rs.take k) (us.map Prod.fst)), packA a0 (frL a0 us (s.rs.take k)), cellA (a0 + 1) (Obj.cells #[.slice none 0 0, .slice none 0 0, .int .i64 0, .int .i64 0, .int .i64 0, .slice none 0 0, .slice none 0 0, .int .i64 0, .int .i64 0, .int .i64 0, .slice none 0 0, .slice none 0 0, .slice none 0 0, .int .i64 0, .slice none 0 0, .slice none 0 0, .slice none 0 0, .int .i64 0, .bool false, .bool false] 52), cellA a0 (Obj.cells #[vp, vl, .int .i64 s.m.tx, .int .i64 s.m.root, .int .i64 s.m.next, vf, .slice aR L cR, .int .i64 s.tm.tx, .int .i64 s.tm.root, .int .i64 s.tm.next, vr, up, ul, .int .i64 s.tk.next, uu, ug, uf, .int .i64 s.tr, .bool s.wr, .bool s.fl] 52)]) ∧ Hid (Below w.heap.size w wr) ∧ Hid (a0 ≤ wr.heap.size))
  case atStart => exact ⟨0, x0, L, [], Nat.zero_le _, rfl, rfl, rfl, hide rfl, HS1, HB1, HZ1⟩
  case round =>
    obtain ⟨k, xR, yR, us, hk, rfl, hg, rfl, HU, HS_wr, HB_wr, HZ_wr⟩ := hrel
    have HG := hide hg
    clear hg hx6 HS1 HB1 HZ1 HS0 HB0 HZ0
    by_cases hlt : k < L
    · obtain ⟨id, m, hm⟩ : ∃ id m, s.rs[k]? = some (id, m) := ⟨_, _, List.getElem?_eq_getElem (by rw [← HL.out]; exact hlt)⟩
      obtain ⟨b, off, uK, rfl, hbl, ⟨c0, c1, c2, c3, c4⟩, hfr⟩ := rds_get HR.out hm
      have hxs := HCr.out _ (List.mem_of_getElem? hm)
      have HC := hide (mcopyI hxs.1 hxs.2)
      obtain ⟨ya, yc, rfl⟩ := frees_slice hfr
      have HMk : Hid (∀ wx, Below w.heap.size w wx → MetaAt wx (.agg #[.int .i64 m.tx, .int .i64 m.root, .int .i64 m.next, .slice ya m.fs.length yc]) m) := hide (fun wx hb => ⟨_, rfl, frees_below hfr hb⟩)
      have HF := hide hm
      have hk0 : (0 : Int) ≤ (k : Int) := by omega
      have hk1 : (k : Int) < (L : Int) := by omega
      have e0 : wr.cell? ⟨b, off + k * 5, none⟩ = some (.int .i64 id) := by rw [cell_sameI (HB_wr.out.block b hbl)]; exact c0
      have e1 : wr.cell? ⟨b, off + k * 5 + 1, none⟩ = some (.int .i64 m.tx) := by rw [cell_sameI (HB_wr.out.block b hbl)]; exact c1
      have e2 : wr.cell? ⟨b, off + k * 5 + 2, none⟩ = some (.int .i64 m.root) := by rw [cell_sameI (HB_wr.out.block b hbl)]; exact c2
      have e3 : wr.cell? ⟨b, off + k * 5 + 3, none⟩ = some (.int .i64 m.next) := by rw [cell_sameI (HB_wr.out.block b hbl)]; exact c3
      have e4 : wr.cell? ⟨b, off + k * 5 + 4, none⟩ = some (.slice ya m.fs.length yc) := by rw [cell_sameI (HB_wr.out.block b hbl)]; exact c4
      obtain ⟨gr, hgr⟩ : ∃ g, g = wr.heap.size := ⟨_, rfl⟩
      obtain ⟨w2, hw2⟩ : ∃ wx, wx = wr.alloc (Obj.cells #[.int .i64 id, .int .i64 m.tx, .int .i64 m.root, .int .i64 m.next, .slice ya m.fs.length yc] 64) := ⟨_, rfl⟩
      have hs2 := sep_new HS_wr.out (Obj.cells #[.int .i64 id, .int .i64 m.tx, .int .i64 m.root, .int .i64 m.next, .slice ya m.fs.length yc] 64) HZ_wr.out
      rw [← hw2, ← hgr] at hs2
      have HS_w2 := hide hs2
      have HB_w2 : Hid (Below w.heap.size w w2) := hide (by rw [hw2]; exact HB_wr.out.alloc HB_wr.out.size _)
      have HZ_w2 : Hid (a0 ≤ w2.heap.size) := hide (by rw [hw2]; have := HZ_wr.out; simp; omega)
      clear hm c0 c1 c2 c3 c4 hfr hxs hs2
      go_upto_region 5 with fail
      rw [← hgr, ← hw2]
      clear hgr hw2 e0 e1 e2 e3 e4
      obtain ⟨wd, hwd⟩ : ∃ wd, wd = w2.drew := ⟨_, rfl⟩
      have HS_wd := hide (sep_drew HS_w2.out)
      have HB_wd := hide HB_w2.out.drew
      have HZ_wd : Hid (a0 ≤ w2.drew.heap.size) := HZ_w2
      rw [← hwd] at HS_wd HB_wd HZ_wd
      have hS_wd : (fun wx => wx.heap[gr]? = some (Obj.cells #[.int .i64 id, .int .i64 m.tx, .int .i64 m.root, .int .i64 m.next, .slice ya m.fs.length yc] 64)) wd := sep_get HS_wd.out 0 rfl
      refine wp_region_held_drew (S := fun wx => wx.heap[gr]? = some (Obj.cells #[.int .i64 id, .int .i64 m.tx, .int .i64 m.root, .int .i64 m.next, .slice ya m.fs.length yc] 64)) (by kernel_rfl) (by rw [← hwd]; exact hS_wd) (fun _ => ?_)
      rw [← hwd]
      clear hwd
      refine takeW 0 17 ?_ rfl rfl (by kernel_rfl) (by kernel_rfl) (by kernel_rfl) (fun _ _ _ h => h) (Or.inl ⟨by rfl, ?_⟩) hS_wd ?_
      rotate_left
      · (intro wx hSw; (try dsimp only at hSw); go_simp; try with_reducible rfl)
      simp only [List.setIfInBounds_toArray, List.set_cons_zero, List.set_cons_succ]
      refine takeW 1 18 ?_ rfl rfl (by kernel_rfl) (by kernel_rfl) (by kernel_rfl) (fun _ _ _ h => h) (Or.inl ⟨by rfl, ?_⟩) hS_wd ?_
      rotate_left
      · (intro wx hSw; (try dsimp only at hSw); go_simp; try with_reducible rfl)
      simp only [List.setIfInBounds_toArray, List.set_cons_zero, List.set_cons_succ]
      refine takeW 2 19 ?_ rfl rfl (by kernel_rfl) (by kernel_rfl) (by kernel_rfl) (fun _ _ _ h => h) (Or.inl ⟨by rfl, ?_⟩) hS_wd ?_
      rotate_left
      · (intro wx hSw; (try dsimp only at hSw); have hx0 : wx.cell? ⟨gr, 0, none⟩ = some (.int .i64 id) := (cell_at hSw 0).1; go_simp; try with_reducible rfl)
      simp only [List.setIfInBounds_toArray, List.set_cons_zero, List.set_cons_succ]
      refine takeW 3 20 ?_ rfl rfl (by kernel_rfl) (by kernel_rfl) (by kernel_rfl) (fun _ _ _ h => h) (Or.inl ⟨by rfl, ?_⟩) hS_wd ?_
      rotate_left
      · (intro wx hSw; (try dsimp only at hSw); go_simp; try with_reducible rfl)
      simp only [List.setIfInBounds_toArray, List.set_cons_zero, List.set_cons_succ]
      refine takeW 4 21 (.agg #[.int .i64 m.tx, .int .i64 m.root, .int .i64 m.next, .slice ya m.fs.length yc]) rfl rfl (by kernel_rfl) (by kernel_rfl) (by kernel_rfl) (fun _ _ _ h => h) (yields_loadL (by rfl) 45 (.tmp 20) rfl gr 1 rfl #[.int .i64 m.tx, .int .i64 m.root, .int .i64 m.next, .slice ya m.fs.length yc] _ (fun _ h => range_of h 1 4) Tryz.underlying45 rfl Tryz.sizeMetaI) hS_wd ?_
      simp only [List.setIfInBounds_toArray, List.set_cons_zero, List.set_cons_succ]
      refine wpAnyH_ready (rs := [5]) (by kernel_rfl) (by simp) ?_
      refine AllReadyH.cons rfl (fun K hK => ?_) AllReadyH.nil
      refine step_call1 wd ?_ 62 Tryz.f62 Tryz.func62 ?_ ?_ (.tmp 21) #[45] ?_ (.agg #[.int .i64 m.tx, .int .i64 m.root, .int .i64 m.next, .slice ya m.fs.length yc]) ?_ _ (HC.out _ wd (HMk.out _ HB_wd.out)) ?_
      · exact rfl
      · decide
      · exact Option.some_ne_none _
      · exact rfl
      · exact rfl
      rintro e y1 ⟨v1, rfl, hm1, hb⟩
      refine ⟨_, rfl, ?_⟩
      obtain ⟨xr, l, ev, ho⟩ := hm1
      obtain ⟨p, q, rfl⟩ := own_slice ho.1
      subst ev
      have HS_y1 := hide (sep_add HS_wd.out hb (freesA a0 (.slice p m.fs.length q) l m.fs) (ownF_down ho HZ_wd.out) (fun j hj => ownF_lt ho j hj) HZ_wd.out)
      have HB_y1 : Hid (Below w.heap.size w y1) := hide (HB_wd.out.trans (hb.mono HB_wd.out.size))
      have HZ_y1 : Hid (a0 ≤ y1.heap.size) := hide (Nat.le_trans HZ_wd.out hb.size)
      have hS_y1 : (fun wx => wx.heap[gr]? = some (Obj.cells #[.int .i64 id, .int .i64 m.tx, .int .i64 m.root, .int .i64 m.next, .slice ya m.fs.length yc] 64)) y1 := sep_get HS_y1.out 1 rfl
      have hSA : (fun wx => wx.heap[gr]? = some (Obj.cells #[.int .i64 id, .int .i64 m.tx, .int .i64 m.root, .int .i64 m.next, .slice ya m.fs.length yc] 64)) (y1.alloc (Obj.cells #[.int .i64 id, .int .i64 m.tx, .int .i64 m.root, .int .i64 m.next, .slice p m.fs.length q] 64)) := sep_get (sep_alloc HS_y1.out _) 1 rfl
      refine hK.out (Act.put _ (some 22) _) _ hS_y1 (fun _ => ?_)
      clear hK K hb ho
      simp only [Act.put, List.setIfInBounds_toArray, List.set_cons_zero, List.set_cons_succ]
      refine takeW 6 23 ?_ rfl rfl (by kernel_rfl) (by kernel_rfl) (by kernel_rfl) (fun _ _ _ h => h) (Or.inl ⟨by rfl, ?_⟩) hS_y1 ?_
      rotate_left
      · (intro wx hSw; (try dsimp only at hSw); go_simp; try with_reducible rfl)
      simp only [List.setIfInBounds_toArray, List.set_cons_zero, List.set_cons_succ]
      refine wpAnyH_ready (rs := [7]) (by kernel_rfl) (by simp) ?_
      refine AllReadyH.cons rfl (fun K hK => ?_) AllReadyH.nil
      go_simp
      refine hK.out _ _ hSA (fun _ => ?_)
      clear hK K
      refine wpAnyH_ready (rs := [8]) (by kernel_rfl) (by simp) ?_
      refine AllReadyH.cons rfl (fun K hK => ?_) AllReadyH.nil
      refine step_rdI HS_y1.out 2 rfl (Nat.le_refl a0) HZ_y1.out HZ_y1.out rfl (.tmp 17) (.tmp 24) rfl rfl id m.tx m.root m.next (.slice p m.fs.length q) rfl rfl rfl (by omega) ?_
      intro b9 c9 W9 hs9 hb9
      have HB9 : Hid (Below w.heap.size w W9) := hide (HB_y1.out.trans (by rw [← HA.out]; exact hb9))
      have HZ9 : Hid (a0 ≤ W9.heap.size) := hide (Nat.le_trans HZ_y1.out hb9.size)
      have hS9 : (fun wx => wx.heap[gr]? = some (Obj.cells #[.int .i64 id, .int .i64 m.tx, .int .i64 m.root, .int .i64 m.next, .slice ya m.fs.length yc] 64)) W9 := sep_get hs9 1 rfl
      have HS9 : Hid (Sep a0 W9 [rowA a0 64 5 (.slice (some ⟨b9, 0, none⟩) (k + 1) c9) (k + 1) (rds (s.rs.take (k + 1)) ((us ++ [(Value.slice p m.fs.length q, l)]).map Prod.fst)), packA a0 (frL a0 (us ++ [(Value.slice p m.fs.length q, l)]) (s.rs.take (k + 1))), cellA (a0 + 1) (Obj.cells #[.slice none 0 0, .slice none 0 0, .int .i64 0, .int .i64 0, .int .i64 0, .slice none 0 0, .slice none 0 0, .int .i64 0, .int .i64 0, .int .i64 0, .slice none 0 0, .slice none 0 0, .slice none 0 0, .int .i64 0, .slice none 0 0, .slice none 0 0, .slice none 0 0, .int .i64 0, .bool false, .bool false] 52), cellA a0 (Obj.cells #[vp, vl, .int .i64 s.m.tx, .int .i64 s.m.root, .int .i64 s.m.next, vf, .slice (some ⟨b, off, none⟩) L cR, .int .i64 s.tm.tx, .int .i64 s.tm.root, .int .i64 s.tm.next, vr, up, ul, .int .i64 s.tk.next, uu, ug, uf, .int .i64 s.tr, .bool s.wr, .bool s.fl] 52)]) := hide (by
        have hlk : (s.rs.take k).length = k := by rw [List.length_take, ← HL.out]; omega
        have h5 := sep_pick (pre := [_, _, _, _, _, _]) (rest := []) hs9 [3, 0, 2, 4, 5] (by decide) [_, _, _, _, _] rfl
        have h7 := sep_snocI (l := frL a0 us (s.rs.take k)) (sep_unpack h5)
        rw [take_nextI s.rs k _ HF.out, List.map_append, List.map_singleton, rds_snocI _ _ _ _ (by rw [List.length_map, HU.out, hlk]), frL_snoc a0 us (s.rs.take k) _ _ (by rw [HU.out, hlk])]
        exact sep_pick (pre := [_, _, _, _]) (rest := []) h7 [1, 0, 2, 3] (by decide) [_, _, _, _] rfl)
      clear hs9 hb9
      refine hK.out (Act.put _ (some 25) _) _ hS9 (fun _ => ?_)
      clear hK K
      simp only [Act.put, List.setIfInBounds_toArray, List.set_cons_zero, List.set_cons_succ]
      refine takeW 9 3 ?_ rfl rfl (by kernel_rfl) (by kernel_rfl) (by kernel_rfl) (fun _ _ _ h => h) (Or.inl ⟨by rfl, ?_⟩) hS9 ?_
      rotate_left
      · (intro wx hSw; (try dsimp only at hSw); go_simp; try with_reducible rfl)
      simp only [List.setIfInBounds_toArray, List.set_cons_zero, List.set_cons_succ]
      refine wpAnyH_done (by kernel_rfl) ?_ _
      clear hS9 hS_wd hS_y1 hSA
      go_wp2_with fail
      go_roundg (gk - 1)
      case measure => have := HG.out; omega
      case rel => exact ⟨k + 1, some ⟨b9, 0, none⟩, c9, (us ++ [(Value.slice p m.fs.length q, l)]), by omega, by go_num, by have := HG.out; omega, rfl, hide (by simp [HU.out]), HS9, HB9, HZ9⟩
    · obtain rfl : k = L := by omega
      go_upto_region 7 with fail
      obtain ⟨wd, hwd⟩ : ∃ wd, wd = wr.drew := ⟨_, rfl⟩
      have HS_wd := hide (sep_drew HS_wr.out)
      have HB_wd := hide HB_wr.out.drew
      have HZ_wd : Hid (a0 ≤ wr.drew.heap.size) := HZ_wr
      rw [← hwd] at HS_wd HB_wd HZ_wd
      have hS_wd : (fun wx => wx.heap[a0]? = some (Obj.cells #[vp, vl, .int .i64 s.m.tx, .int .i64 s.m.root, .int .i64 s.m.next, vf, .slice aR k cR, .int .i64 s.tm.tx, .int .i64 s.tm.root, .int .i64 s.tm.next, vr, up, ul, .int .i64 s.tk.next, uu, ug, uf, .int .i64 s.tr, .bool s.wr, .bool s.fl] 52)) wd := sep_get HS_wd.out 3 rfl
      refine wp_region_held_drew (S := fun wx => wx.heap[a0]? = some (Obj.cells #[vp, vl, .int .i64 s.m.tx, .int .i64 s.m.root, .int .i64 s.m.next, vf, .slice aR k cR, .int .i64 s.tm.tx, .int .i64 s.tm.root, .int .i64 s.tm.next, vr, up, ul, .int .i64 s.tk.next, uu, ug, uf, .int .i64 s.tr, .bool s.wr, .bool s.fl] 52)) (by kernel_rfl) (by rw [← hwd]; exact hS_wd) (fun _ => ?_)
      rw [← hwd]
      clear hwd
      refine takeW 0 27 ?_ rfl rfl (by kernel_rfl) (by kernel_rfl) (by kernel_rfl) (fun _ _ _ h => h) (Or.inl ⟨by rfl, ?_⟩) hS_wd ?_
      rotate_left
      · (intro wx hSw; (try dsimp only at hSw); go_simp; try with_reducible rfl)
      simp only [List.setIfInBounds_toArray, List.set_cons_zero, List.set_cons_succ]
      refine takeW 1 28 (.agg #[vp, vl]) rfl rfl (by kernel_rfl) (by kernel_rfl) (by kernel_rfl) (fun _ _ _ h => h) (yields_loadL (by rfl) 42 (.tmp 27) rfl a0 0 rfl #[vp, vl] _ (fun _ h => range_of h 0 2) Tryz.underlying42 rfl Tryz.sizeDiskI) hS_wd ?_
      simp only [List.setIfInBounds_toArray, List.set_cons_zero, List.set_cons_succ]
      refine takeW 3 30 ?_ rfl rfl (by kernel_rfl) (by kernel_rfl) (by kernel_rfl) (fun _ _ _ h => h) (Or.inl ⟨by rfl, ?_⟩) hS_wd ?_
      rotate_left
      · (intro wx hSw; (try dsimp only at hSw); go_simp; try with_reducible rfl)
      simp only [List.setIfInBounds_toArray, List.set_cons_zero, List.set_cons_succ]
      refine takeW 4 31 (.agg #[.int .i64 s.m.tx, .int .i64 s.m.root, .int .i64 s.m.next, vf]) rfl rfl (by kernel_rfl) (by kernel_rfl) (by kernel_rfl) (fun _ _ _ h => h) (yields_loadL (by rfl) 45 (.tmp 30) rfl a0 2 rfl #[.int .i64 s.m.tx, .int .i64 s.m.root, .int .i64 s.m.next, vf] _ (fun _ h => range_of h 2 4) Tryz.underlying45 rfl Tryz.sizeMetaI) hS_wd ?_
      simp only [List.setIfInBounds_toArray, List.set_cons_zero, List.set_cons_succ]
      refine takeW 6 33 ?_ rfl rfl (by kernel_rfl) (by kernel_rfl) (by kernel_rfl) (fun _ _ _ h => h) (Or.inl ⟨by rfl, ?_⟩) hS_wd ?_
      rotate_left
      · (intro wx hSw; (try dsimp only at hSw); go_simp; try with_reducible rfl)
      simp only [List.setIfInBounds_toArray, List.set_cons_zero, List.set_cons_succ]
      refine takeW 7 34 ?_ rfl rfl (by kernel_rfl) (by kernel_rfl) (by kernel_rfl) (fun _ _ _ h => h) (Or.inl ⟨by rfl, ?_⟩) hS_wd ?_
      rotate_left
      · (intro wx hSw; (try dsimp only at hSw); go_simp; try with_reducible rfl)
      simp only [List.setIfInBounds_toArray, List.set_cons_zero, List.set_cons_succ]
      refine takeW 8 35 (.agg #[.int .i64 s.tm.tx, .int .i64 s.tm.root, .int .i64 s.tm.next, vr, up, ul, .int .i64 s.tk.next, uu, ug, uf, .int .i64 s.tr]) rfl rfl (by kernel_rfl) (by kernel_rfl) (by kernel_rfl) (fun _ _ _ h => h) (yields_loadL (by rfl) 50 (.tmp 34) rfl a0 7 rfl #[.int .i64 s.tm.tx, .int .i64 s.tm.root, .int .i64 s.tm.next, vr, up, ul, .int .i64 s.tk.next, uu, ug, uf, .int .i64 s.tr] _ (fun _ h => range_of h 7 11) Tryz.underlying50 rfl Tryz.sizeTxnI) hS_wd ?_
      simp only [List.setIfInBounds_toArray, List.set_cons_zero, List.set_cons_succ]
      refine takeW 10 37 ?_ rfl rfl (by kernel_rfl) (by kernel_rfl) (by kernel_rfl) (fun _ _ _ h => h) (Or.inl ⟨by rfl, ?_⟩) hS_wd ?_
      rotate_left
      · (intro wx hSw; (try dsimp only at hSw); go_simp; try with_reducible rfl)
      simp only [List.setIfInBounds_toArray, List.set_cons_zero, List.set_cons_succ]
      refine takeW 11 38 ?_ rfl rfl (by kernel_rfl) (by kernel_rfl) (by kernel_rfl) (fun _ _ _ h => h) (Or.inl ⟨by rfl, ?_⟩) hS_wd ?_
      rotate_left
      · (intro wx hSw; (try dsimp only at hSw); have hc18 : wx.cell? ⟨a0, 18, none⟩ = some (.bool s.wr) := (cell_at hSw 18).1; go_simp; try with_reducible rfl)
      simp only [List.setIfInBounds_toArray, List.set_cons_zero, List.set_cons_succ]
      refine takeW 12 39 ?_ rfl rfl (by kernel_rfl) (by kernel_rfl) (by kernel_rfl) (fun _ _ _ h => h) (Or.inl ⟨by rfl, ?_⟩) hS_wd ?_
      rotate_left
      · (intro wx hSw; (try dsimp only at hSw); go_simp; try with_reducible rfl)
      simp only [List.setIfInBounds_toArray, List.set_cons_zero, List.set_cons_succ]
      refine takeW 13 40 ?_ rfl rfl (by kernel_rfl) (by kernel_rfl) (by kernel_rfl) (fun _ _ _ h => h) (Or.inl ⟨by rfl, ?_⟩) hS_wd ?_
      rotate_left
      · (intro wx hSw; (try dsimp only at hSw); have hc19 : wx.cell? ⟨a0, 19, none⟩ = some (.bool s.fl) := (cell_at hSw 19).1; go_simp; try with_reducible rfl)
      simp only [List.setIfInBounds_toArray, List.set_cons_zero, List.set_cons_succ]
      refine wpAnyH_ready (rs := [2]) (by kernel_rfl) (by simp) ?_
      refine AllReadyH.cons rfl (fun K hK => ?_) AllReadyH.nil
      refine step_call1 wd ?_ 63 Tryz.f63 Tryz.func63 ?_ ?_ (.tmp 28) #[42] ?_ (.agg #[vp, vl]) ?_ _ (HCd.out _ wd (disk_below HD.out HB_wd.out)) ?_
      · exact rfl
      · decide
      · exact Option.some_ne_none _
      · exact rfl
      · exact rfl
      rintro e z1 ⟨v1, rfl, ho, hb⟩
      refine ⟨_, rfl, ?_⟩
      obtain ⟨p1, q1, p2, q2, rfl⟩ := disk_form ho
      have HS_z1 := hide (sep_add HS_wd.out hb (diskA a0 _ s.ps s.ls) (disk_downQ ho HZ_wd.out) (fun j hj => diskOwn_lt ho j hj) HZ_wd.out)
      have HB_z1 : Hid (Below w.heap.size w z1) := hide (HB_wd.out.trans (hb.mono HB_wd.out.size))
      have HZ_z1 : Hid (a0 ≤ z1.heap.size) := hide (Nat.le_trans HZ_wd.out hb.size)
      have hS_z1 : (fun wx => wx.heap[a0]? = some (Obj.cells #[vp, vl, .int .i64 s.m.tx, .int .i64 s.m.root, .int .i64 s.m.next, vf, .slice aR k cR, .int .i64 s.tm.tx, .int .i64 s.tm.root, .int .i64 s.tm.next, vr, up, ul, .int .i64 s.tk.next, uu, ug, uf, .int .i64 s.tr, .bool s.wr, .bool s.fl] 52)) z1 := sep_get HS_z1.out 4 rfl
      refine hK.out (Act.put _ (some 29) _) _ hS_z1 (fun _ => ?_)
      clear hK K hb ho
      simp only [Act.put, List.setIfInBounds_toArray, List.set_cons_zero, List.set_cons_succ]
      refine wpAnyH_ready (rs := [5]) (by kernel_rfl) (by simp) ?_
      refine AllReadyH.cons rfl (fun K hK => ?_) AllReadyH.nil
      refine step_call1 z1 ?_ 62 Tryz.f62 Tryz.func62 ?_ ?_ (.tmp 31) #[45] ?_ (.agg #[.int .i64 s.m.tx, .int .i64 s.m.root, .int .i64 s.m.next, vf]) ?_ _ (HCm.out _ z1 (meta_below HM.out HB_z1.out)) ?_
      · exact rfl
      · decide
      · exact Option.some_ne_none _
      · exact rfl
      · exact rfl
      rintro e z2 ⟨v1, rfl, hm, hb⟩
      refine ⟨_, rfl, ?_⟩
      obtain ⟨xr, l1, ev, ho⟩ := hm
      obtain ⟨p3, q3, rfl⟩ := own_slice ho.1
      subst ev
      have HS_z2 := hide (sep_add HS_z1.out hb (freesA a0 (.slice p3 s.m.fs.length q3) l1 s.m.fs) (ownF_down ho HZ_z1.out) (fun j hj => ownF_lt ho j hj) HZ_z1.out)
      have HB_z2 : Hid (Below w.heap.size w z2) := hide (HB_z1.out.trans (hb.mono HB_z1.out.size))
      have HZ_z2 : Hid (a0 ≤ z2.heap.size) := hide (Nat.le_trans HZ_z1.out hb.size)
      have hS_z2 : (fun wx => wx.heap[a0]? = some (Obj.cells #[vp, vl, .int .i64 s.m.tx, .int .i64 s.m.root, .int .i64 s.m.next, vf, .slice aR k cR, .int .i64 s.tm.tx, .int .i64 s.tm.root, .int .i64 s.tm.next, vr, up, ul, .int .i64 s.tk.next, uu, ug, uf, .int .i64 s.tr, .bool s.wr, .bool s.fl] 52)) z2 := sep_get HS_z2.out 5 rfl
      refine hK.out (Act.put _ (some 32) _) _ hS_z2 (fun _ => ?_)
      clear hK K hb ho
      simp only [Act.put, List.setIfInBounds_toArray, List.set_cons_zero, List.set_cons_succ]
      refine wpAnyH_ready (rs := [9]) (by kernel_rfl) (by simp) ?_
      refine AllReadyH.cons rfl (fun K hK => ?_) AllReadyH.nil
      refine step_call1 z2 ?_ 64 Tryz.f64 Tryz.func64 ?_ ?_ (.tmp 35) #[50] ?_ (.agg #[.int .i64 s.tm.tx, .int .i64 s.tm.root, .int .i64 s.tm.next, vr, up, ul, .int .i64 s.tk.next, uu, ug, uf, .int .i64 s.tr]) ?_ _ (HCt.out _ z2 (txn_below HT.out HB_z2.out)) ?_
      · exact rfl
      · decide
      · exact Option.some_ne_none _
      · exact rfl
      · exact rfl
      rintro e z3 ⟨v1, rfl, hm, hb⟩
      refine ⟨_, rfl, ?_⟩
      obtain ⟨l2, p5, q5, p6, q6, p7, q7, p8, q8, p9, q9, p10, q10, ev, ho⟩ := hm
      subst ev
      have HS_z3 := hide (sep_joinL (l'' := [freesA a0 (.slice p5 s.tm.fs.length q5) l2 s.tm.fs, workA a0 (.agg #[.slice p6 s.tk.ps.length q6, .slice p7 s.tk.ls.length q7, .int .i64 s.tk.next, .slice p8 s.tk.us.length q8, .slice p9 s.tk.gs.length q9, .slice p10 s.tk.fs.length q10]) s.tk]) HS_z2.out hb ho ⟨asIs_frees HZ_z2.out _ _ _, asIs_work HZ_z2.out _ _, trivial⟩ HZ_z2.out)
      have HB_z3 : Hid (Below w.heap.size w z3) := hide (HB_z2.out.trans (hb.mono HB_z2.out.size))
      have HZ_z3 : Hid (a0 ≤ z3.heap.size) := hide (Nat.le_trans HZ_z2.out hb.size)
      have hS_z3 : (fun wx => wx.heap[a0]? = some (Obj.cells #[vp, vl, .int .i64 s.m.tx, .int .i64 s.m.root, .int .i64 s.m.next, vf, .slice aR k cR, .int .i64 s.tm.tx, .int .i64 s.tm.root, .int .i64 s.tm.next, vr, up, ul, .int .i64 s.tk.next, uu, ug, uf, .int .i64 s.tr, .bool s.wr, .bool s.fl] 52)) z3 := sep_get HS_z3.out 7 rfl
      refine hK.out (Act.put _ (some 36) _) _ hS_z3 (fun _ => ?_)
      clear hK K hb ho
      simp only [Act.put, List.setIfInBounds_toArray, List.set_cons_zero, List.set_cons_succ]
      refine takeW 14 41 ?_ rfl rfl (by kernel_rfl) (by kernel_rfl) (by kernel_rfl) (fun _ _ _ h => h) (Or.inl ⟨by rfl, ?_⟩) hS_z3 ?_
      rotate_left
      · (intro wx hSw; (try dsimp only at hSw); go_simp; try with_reducible rfl)
      simp only [List.setIfInBounds_toArray, List.set_cons_zero, List.set_cons_succ]
      refine wpAnyH_ready (rs := [15]) (by kernel_rfl) (by simp) ?_
      refine AllReadyH.cons rfl (fun K hK => ?_) AllReadyH.nil
      obtain ⟨wf, hwf⟩ : ∃ wx, wx = z3.setCells (a0 + 1) 0 (#[.slice p1 s.ps.length q1, .slice p2 s.ls.length q2, .int .i64 s.m.tx, .int .i64 s.m.root, .int .i64 s.m.next, .slice p3 s.m.fs.length q3, .slice xR k yR, .int .i64 s.tm.tx, .int .i64 s.tm.root, .int .i64 s.tm.next, .slice p5 s.tm.fs.length q5, .slice p6 s.tk.ps.length q6, .slice p7 s.tk.ls.length q7, .int .i64 s.tk.next, .slice p8 s.tk.us.length q8, .slice p9 s.tk.gs.length q9, .slice p10 s.tk.fs.length q10, .int .i64 s.tr, .bool s.wr, .bool s.fl] : Array Value).toList := ⟨_, rfl⟩
      have hs9 := sep_cellsAll HS_z3.out 6 rfl #[.slice p1 s.ps.length q1, .slice p2 s.ls.length q2, .int .i64 s.m.tx, .int .i64 s.m.root, .int .i64 s.m.next, .slice p3 s.m.fs.length q3, .slice xR k yR, .int .i64 s.tm.tx, .int .i64 s.tm.root, .int .i64 s.tm.next, .slice p5 s.tm.fs.length q5, .slice p6 s.tk.ps.length q6, .slice p7 s.tk.ls.length q7, .int .i64 s.tk.next, .slice p8 s.tk.us.length q8, .slice p9 s.tk.gs.length q9, .slice p10 s.tk.fs.length q10, .int .i64 s.tr, .bool s.wr, .bool s.fl] rfl
      have hb9 := below_cells (show w.heap.size ≤ a0 + 1 by have := HA.out; omega) (#[.slice p1 s.ps.length q1, .slice p2 s.ls.length q2, .int .i64 s.m.tx, .int .i64 s.m.root, .int .i64 s.m.next, .slice p3 s.m.fs.length q3, .slice xR k yR, .int .i64 s.tm.tx, .int .i64 s.tm.root, .int .i64 s.tm.next, .slice p5 s.tm.fs.length q5, .slice p6 s.tk.ps.length q6, .slice p7 s.tk.ls.length q7, .int .i64 s.tk.next, .slice p8 s.tk.us.length q8, .slice p9 s.tk.gs.length q9, .slice p10 s.tk.fs.length q10, .int .i64 s.tr, .bool s.wr, .bool s.fl] : Array Value).toList 0 z3 HB_z3.out
      rw [← hwf] at hs9 hb9
      have hS9 : (fun wx => wx.heap[a0]? = some (Obj.cells #[vp, vl, .int .i64 s.m.tx, .int .i64 s.m.root, .int .i64 s.m.next, vf, .slice aR k cR, .int .i64 s.tm.tx, .int .i64 s.tm.root, .int .i64 s.tm.next, vr, up, ul, .int .i64 s.tk.next, uu, ug, uf, .int .i64 s.tr, .bool s.wr, .bool s.fl] 52)) wf := sep_get hs9 7 rfl
      have hth : z3.there (a0 + 1) 0 (#[.slice p1 s.ps.length q1, .slice p2 s.ls.length q2, .int .i64 s.m.tx, .int .i64 s.m.root, .int .i64 s.m.next, .slice p3 s.m.fs.length q3, .slice xR k yR, .int .i64 s.tm.tx, .int .i64 s.tm.root, .int .i64 s.tm.next, .slice p5 s.tm.fs.length q5, .slice p6 s.tk.ps.length q6, .slice p7 s.tk.ls.length q7, .int .i64 s.tk.next, .slice p8 s.tk.us.length q8, .slice p9 s.tk.gs.length q9, .slice p10 s.tk.fs.length q10, .int .i64 s.tr, .bool s.wr, .bool s.fl] : Array Value).size := there_of (sep_get HS_z3.out 6 rfl : z3.heap[a0 + 1]? = some (Obj.cells #[.slice none 0 0, .slice none 0 0, .int .i64 0, .int .i64 0, .int .i64 0, .slice none 0 0, .slice none 0 0, .int .i64 0, .int .i64 0, .int .i64 0, .slice none 0 0, .slice none 0 0, .slice none 0 0, .int .i64 0, .slice none 0 0, .slice none 0 0, .slice none 0 0, .int .i64 0, .bool false, .bool false] 52)) 0 20 (show 0 + 20 ≤ 20 by decide)
      refine step_storeL ?_ 52 (.tmp 2) (.tmp 41) ?_ (a0 + 1) 0 #[.slice p1 s.ps.length q1, .slice p2 s.ls.length q2, .int .i64 s.m.tx, .int .i64 s.m.root, .int .i64 s.m.next, .slice p3 s.m.fs.length q3, .slice xR k yR, .int .i64 s.tm.tx, .int .i64 s.tm.root, .int .i64 s.tm.next, .slice p5 s.tm.fs.length q5, .slice p6 s.tk.ps.length q6, .slice p7 s.tk.ls.length q7, .int .i64 s.tk.next, .slice p8 s.tk.us.length q8, .slice p9 s.tk.gs.length q9, .slice p10 s.tk.fs.length q10, .int .i64 s.tr, .bool s.wr, .bool s.fl] ?_ ?_ hth ?_ ?_ hwf.symm ?_
      · exact rfl
      · exact rfl
      · exact rfl
      · exact rfl
      · exact Tryz.sizeStore
      · exact rfl
      have HSf := hide hs9
      have HBf := hide hb9
      clear hth hs9 hb9 hwf
      refine hK.out _ _ hS9 (fun _ => ?_)
      clear hK K
      refine wpAnyH_done (by kernel_rfl) ?_ _
      go_wp2_with fail
      have HRf : Hid (wf.rangeAt (a0 + 1) 0 (#[.slice p1 s.ps.length q1, .slice p2 s.ls.length q2, .int .i64 s.m.tx, .int .i64 s.m.root, .int .i64 s.m.next, .slice p3 s.m.fs.length q3, .slice xR k yR, .int .i64 s.tm.tx, .int .i64 s.tm.root, .int .i64 s.tm.next, .slice p5 s.tm.fs.length q5, .slice p6 s.tk.ps.length q6, .slice p7 s.tk.ls.length q7, .int .i64 s.tk.next, .slice p8 s.tk.us.length q8, .slice p9 s.tk.gs.length q9, .slice p10 s.tk.fs.length q10, .int .i64 s.tr, .bool s.wr, .bool s.fl] : Array Value).toList) := hide (range_all (sep_get HSf.out 6 rfl))
      refine bodyPost_ret (v := .agg #[.slice p1 s.ps.length q1, .slice p2 s.ls.length q2, .int .i64 s.m.tx, .int .i64 s.m.root, .int .i64 s.m.next, .slice p3 s.m.fs.length q3, .slice xR k yR, .int .i64 s.tm.tx, .int .i64 s.tm.root, .int .i64 s.tm.next, .slice p5 s.tm.fs.length q5, .slice p6 s.tk.ps.length q6, .slice p7 s.tk.ls.length q7, .int .i64 s.tk.next, .slice p8 s.tk.us.length q8, .slice p9 s.tk.gs.length q9, .slice p10 s.tk.fs.length q10, .int .i64 s.tr, .bool s.wr, .bool s.fl]) (results_c Tryz.results40 rfl (run_agg HRf.out Tryz.underlying52 rfl Tryz.sizeStore)) rfl ⟨_, rfl, ?_, HBf.out⟩
      have h := sep_pick (pre := [_, _, _, _, _, _, _, _]) (rest := []) HSf.out [5, 4, 3, 2, 0, 1] (by decide) [_, _, _, _, _, _] rfl
      rw [List.take_of_length_le (by rw [← HL.out]; exact Nat.le_refl _)] at h
      have h2 := sep_perm (sep_unpack h) (l' := (rowA a0 64 5 (.slice xR k yR) k (rds s.rs (us.map Prod.fst)) :: frL a0 us s.rs) ++ [diskA a0 (.agg #[.slice p1 s.ps.length q1, .slice p2 s.ls.length q2]) s.ps s.ls, freesA a0 (.slice p3 s.m.fs.length q3) l1 s.m.fs, freesA a0 (.slice p5 s.tm.fs.length q5) l2 s.tm.fs, workA a0 (.agg #[.slice p6 s.tk.ps.length q6, .slice p7 s.tk.ls.length q7, .int .i64 s.tk.next, .slice p8 s.tk.us.length q8, .slice p9 s.tk.gs.length q9, .slice p10 s.tk.fs.length q10]) s.tk]) (by
        refine List.perm_middle.trans ?_
        rfl)
      have h3 := sep_pick (pre := [_, _, _, _, _]) (rest := []) (sep_pack h2) [1, 2, 0, 3, 4] (by decide) [_, _, _, _, _] rfl
      rw [HL.out, HA.out] at h3
      rw [HL.out]
      exact ⟨p1, q1, p2, q2, p3, q3, xR, yR, p5, q5, p6, q6, p7, q7, p8, q8, p9, q9, p10, q10, l1, l2, us, by rw [HU.out, HL.out], rfl, h3⟩
end Go.Proofs.YtbokjfjdjgopeaaGreatDoor
