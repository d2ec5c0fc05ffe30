/-
  spec.l12Copy by a contract: a store's copy, in memory of its own (made by tools/speclcopy.py).
-/
import Derived.Test.YtghjbfdbheokcaaGreatSwG
import Derived.Test.YtghjbfdbheokcaaGreatSpecTCopy
import Derived.Test.YtghjbfdbheokcaaGreatMCopy
import Derived.Test.YtghjbfdbheokcaaGreatSwD
import Derived.Deep.Cut
namespace Go.Proofs.YtghjbfdbheokcaaGreat
open Go.RowKit

theorem mcopyS {m : Mt} (hl : m.fs.length ≤ 1048576) (hs : ∀ f ∈ m.fs, f.2.length ≤ 1048576) : MCopyAt m := fun u wx h => l06Copy_bigC u m hl hs wx h

theorem Tryz.sizeMetaS : (Tryz.prog.info? 43).map (·.size) = some 4 := by kernel_rfl

theorem Tryz.sizeDiskS : (Tryz.prog.info? 40).map (·.size) = some 2 := by kernel_rfl

theorem sep_none5 {B : Nat} {W : World} {l : List Ast} (h : Sep B W l) (B' e : Nat) : Sep B W (rowA B' e 5 (.slice none 0 0) 0 [] :: l) :=
  sep_cons.2 ⟨⟨⟨rfl, Or.inl ⟨rfl, rfl⟩⟩, fun j hj => by cases hj⟩, fun _ _ j hj => (by cases hj), h⟩

theorem rds_snoc : ∀ (rs : List (Int × Mt)) (us : List Value) (r : Int × Mt) (u : Value), us.length = rs.length → rds (rs ++ [r]) (us ++ [u]) = rds rs us ++ [.int .i64 r.1, .int .i64 r.2.tx, .int .i64 r.2.root, .int .i64 r.2.next, u]
  | [], [], _, _, _ => rfl
  | [], _ :: _, _, _, h => by simp at h
  | _ :: _, [], _, _, h => by simp at h
  | q :: rs, x :: us, r, u, h => by
    simp only [List.cons_append, rds]
    rw [rds_snoc rs us r u (by simpa using h)]

theorem sep_snocP {B : Nat} {W : World} {l rest : List Ast} {A : Ast} (h : Sep B W (l ++ A :: rest)) : Sep B W (packA B (l ++ [A]) :: rest) := sep_pack (by rw [List.append_assoc]; exact h)

theorem branch4 {α β γ δ : Type} {G : α → β → γ → δ → Prop} {A B : Prop} (P : α → β → γ → δ → Prop) (hA : (∀ a b c d, P a b c d → G a b c d) → A) (hB : (∀ a b c d, P a b c d → G a b c d) → B) (h : ∀ a b c d, P a b c d → G a b c d) : A ∧ B := ⟨hA h, hB h⟩

theorem cell_sameS {w w' : World} {b i : Nat} (h : w'.heap[b]? = w.heap[b]?) : w'.cell? ⟨b, i, none⟩ = w.cell? ⟨b, i, none⟩ := by
  unfold World.cell?
  simp only [h]

theorem range4 {w : World} {b o : Nat} {x0 x1 x2 x3 : Value} (h0 : w.cell? ⟨b, o, none⟩ = some x0) (h1 : w.cell? ⟨b, o + 1, none⟩ = some x1) (h2 : w.cell? ⟨b, o + 2, none⟩ = some x2) (h3 : w.cell? ⟨b, o + 3, none⟩ = some x3) : w.rangeAt b o (#[x0, x1, x2, x3] : Array Value).toList := fun j v hv => by
  match j, hv with
  | 0, hv => injection hv with hv; subst hv; exact h0
  | 1, hv => injection hv with hv; subst hv; exact h1
  | 2, hv => injection hv with hv; subst hv; exact h2
  | 3, hv => injection hv with hv; subst hv; exact h3
  | j + 4, hv => simp at hv

theorem take_nextS {α : Type} (l : List α) (k : Nat) (x : α) (h : l[k]? = some x) : l.take (k + 1) = l.take k ++ [x] := by rw [List.take_add_one, h]; rfl

/-- a reader more, in a region that draws its order -/
theorem step_rd1 {ops : Array Oper} {o : Oper} {a : Act} {K : Act → World → Prop} {Q : Exit → Act → World → Prop} {E : Prop} {B : Nat} {W : World} {l : List Ast} (h : Sep B W l) (i : Nat) {B' n : Nat} {v : Value} {xs : List Value} (hi : l[i]? = some (rowA B' 98 5 v n xs)) (hBB : B ≤ B') (hBW : B ≤ W.heap.size) (hBW' : B' ≤ W.heap.size)
    (hgd : o.guard = none) (s x : Operand) (ho : o.op = .call { callee := .builtin .append, args := #[s, x], argTypes := #[44, 44] }) (hs : a.eval s = v) (id tx root next : Int) (u : Value) (hu : u.oneCell' = true) {H : Nat} (hH : H = W.heap.size) (hx : a.eval x = .slice (some ⟨H, 0, none⟩) 1 1) (hn : n ≤ 1048576)
    (hK : ∀ b c w', Sep B w' (l.set i (rowA B' 98 5 (.slice (some ⟨b, 0, none⟩) (n + 1) c) (n + 1) (xs ++ [.int .i64 id, .int .i64 tx, .int .i64 root, .int .i64 next, u]))) → Below B W w' → K (a.put o.dst (.slice (some ⟨b, 0, none⟩) (n + 1) c)) w') :
    if Region.wanted o (yielded ops a.tmps) = true then Oper.wp Tryz.prog o a (W.alloc (Obj.cells #[.int .i64 id, .int .i64 tx, .int .i64 root, .int .i64 next, u] 98)) K Q else E := by
  obtain ⟨i0, hinf, hz0, hz1, hz2⟩ := info_parts Tryz.infoReader
  exact step_sep1 h i hi hBB hBW hBW' hgd s x 44 ho i0 (.agg #[.int .i64 0, .int .i64 0, .int .i64 0, .int .i64 0, .slice none 0 0]) 56 Tryz.underlying44 hinf hz0 hz1 hz2 rfl (by decide) hs #[.int .i64 id, .int .i64 tx, .int .i64 root, .int .i64 next, u] hH hx rfl (fun y hy => by simp at hy; rcases hy with rfl | rfl | rfl | rfl | rfl <;> first | rfl | exact hu) (by unfold maxLen; omega) (by omega) (fun b c w' k1 k2 => hK b c w' k1 k2)

set_option maxHeartbeats 32000000 in
set_option maxRecDepth 100000 in
theorem specSCopy_any (v : Value) (s : St) (hs : s.small) (w : World) (hd : StAt w v s) :
    Calls Tryz.prog 15 #[v] w fun e w' => ∃ v', e = .returned v' ∧ StOwn w' w.heap.size v' s ∧ Below w.heap.size w w' := by
  have HCd := hide (fun u wx h => specCopy_any u s.ps s.ls hs.1.1 hs.1.2.2.1 wx h)
  have HCm := hide (mcopyS hs.2.1.1 hs.2.1.2)
  have HCt := hide (fun u wx h => specTCopy_of u s.tm (mcopyS hs.2.2.2.1.1 hs.2.2.2.1.2) s.tk (bulkW_in hs.2.2.2.2) s.tr wx h)
  have HCr := hide hs.2.2.1.2
  have hl := hs.2.2.1.1
  obtain ⟨vp, vl, vf, vR, vr, up, ul, uu, ug, uf, rfl, h1, h2, h3, h4⟩ := hd
  obtain ⟨aR, cR, rfl⟩ := rds_slice h3
  obtain ⟨L, hL⟩ : ∃ n, n = s.rs.length := ⟨_, rfl⟩
  rw [← hL] at h3 hl ⊢
  have HD := hide h1
  have HM := hide h2
  have HR := hide h3
  have HT := hide h4
  have HL := hide hL
  clear hs h1 h2 h3 h4 hL
  obtain ⟨a0, ha0⟩ : ∃ a, a = w.heap.size := ⟨_, rfl⟩
  have hS0 := sep_new (sep_new (sep_nil w.heap.size w) (Obj.cells #[vp, vl, .int .i64 s.m.tx, .int .i64 s.m.root, .int .i64 s.m.next, vf, .slice aR L cR, .int .i64 s.tm.tx, .int .i64 s.tm.root, .int .i64 s.tm.next, vr, up, ul, .int .i64 s.tk.next, uu, ug, uf, .int .i64 s.tr, .bool s.wr, .bool s.fl] 50) (Nat.le_refl _)) (Obj.cells #[.slice none 0 0, .slice none 0 0, .int .i64 0, .int .i64 0, .int .i64 0, .slice none 0 0, .slice none 0 0, .int .i64 0, .int .i64 0, .int .i64 0, .slice none 0 0, .slice none 0 0, .slice none 0 0, .int .i64 0, .slice none 0 0, .slice none 0 0, .slice none 0 0, .int .i64 0, .bool false, .bool false] 50) (by simp)
  obtain ⟨w0, hw0⟩ : ∃ w0, w0 = (w.alloc (Obj.cells #[vp, vl, .int .i64 s.m.tx, .int .i64 s.m.root, .int .i64 s.m.next, vf, .slice aR L cR, .int .i64 s.tm.tx, .int .i64 s.tm.root, .int .i64 s.tm.next, vr, up, ul, .int .i64 s.tk.next, uu, ug, uf, .int .i64 s.tr, .bool s.wr, .bool s.fl] 50)).alloc (Obj.cells #[.slice none 0 0, .slice none 0 0, .int .i64 0, .int .i64 0, .int .i64 0, .slice none 0 0, .slice none 0 0, .int .i64 0, .int .i64 0, .int .i64 0, .slice none 0 0, .slice none 0 0, .slice none 0 0, .int .i64 0, .slice none 0 0, .slice none 0 0, .slice none 0 0, .int .i64 0, .bool false, .bool false] 50) := ⟨_, rfl⟩
  rw [World.size_alloc, ← hw0, ← ha0] at hS0
  have HS0 := hide hS0
  have HB0 : Hid (Below w.heap.size w w0) := hide (by rw [hw0]; exact ((Below.refl w.heap.size w).alloc (Nat.le_refl _) _).alloc (by simp) _)
  have HZ0 : Hid (a0 ≤ w0.heap.size) := hide (by rw [hw0, ha0]; simp; omega)
  have HA := hide ha0
  clear hS0 ha0
  go_enter Tryz.func15, Tryz.ntmps15
  go_upto_region 1 with fail
  rw [← hw0, ← HA.out]
  clear hw0
  go_cut [3] from 5 (fun s3 wr => ∃ (g : Nat) (p1 : Option Addr) (q1 : Nat) (p2 : Option Addr) (q2 : Nat) (p3 : Option Addr) (q3 : Nat) (p5 : Option Addr) (q5 : Nat) (p6 : Option Addr) (q6 : Nat) (p7 : Option Addr) (q7 : Nat) (p8 : Option Addr) (q8 : Nat) (p9 : Option Addr) (q9 : Nat) (p10 : Option Addr) (q10 : Nat) (l1 l2 : List (Int × Value)), s3 = .pointer (some ⟨g, 0, none⟩) ∧ Hid (Sep a0 wr [cellA g (Obj.cells #[.slice p1 s.ps.length q1, .slice p2 s.ls.length q2, .int .i64 s.m.tx, .int .i64 s.m.root, .int .i64 s.m.next, .slice p3 s.m.fs.length q3, .slice none 0 0, .int .i64 s.tm.tx, .int .i64 s.tm.root, .int .i64 s.tm.next, .slice p5 s.tm.fs.length q5, .slice p6 s.tk.ps.length q6, .slice p7 s.tk.ls.length q7, .int .i64 s.tk.next, .slice p8 s.tk.us.length q8, .slice p9 s.tk.gs.length q9, .slice p10 s.tk.fs.length q10, .int .i64 s.tr, .bool s.wr, .bool s.fl] 50), diskA a0 (.agg #[.slice p1 s.ps.length q1, .slice p2 s.ls.length q2]) s.ps s.ls, freesA a0 (.slice p3 s.m.fs.length q3) l1 s.m.fs, freesA a0 (.slice p5 s.tm.fs.length q5) l2 s.tm.fs, workA a0 (.agg #[.slice p6 s.tk.ps.length q6, .slice p7 s.tk.ls.length q7, .int .i64 s.tk.next, .slice p8 s.tk.us.length q8, .slice p9 s.tk.gs.length q9, .slice p10 s.tk.fs.length q10]) s.tk, cellA (a0 + 1) (Obj.cells #[.slice none 0 0, .slice none 0 0, .int .i64 0, .int .i64 0, .int .i64 0, .slice none 0 0, .slice none 0 0, .int .i64 0, .int .i64 0, .int .i64 0, .slice none 0 0, .slice none 0 0, .slice none 0 0, .int .i64 0, .slice none 0 0, .slice none 0 0, .slice none 0 0, .int .i64 0, .bool false, .bool false] 50), cellA a0 (Obj.cells #[vp, vl, .int .i64 s.m.tx, .int .i64 s.m.root, .int .i64 s.m.next, vf, .slice aR L cR, .int .i64 s.tm.tx, .int .i64 s.tm.root, .int .i64 s.tm.next, vr, up, ul, .int .i64 s.tk.next, uu, ug, uf, .int .i64 s.tr, .bool s.wr, .bool s.fl] 50)]) ∧ Hid (Below w.heap.size w wr) ∧ Hid (a0 ≤ wr.heap.size))
  case first =>
    obtain ⟨wd, hwd⟩ : ∃ wd, wd = w0.drew := ⟨_, rfl⟩
    have HS_wd := hide (sep_drew HS0.out)
    have HB_wd := hide HB0.out.drew
    have HZ_wd : Hid (a0 ≤ w0.drew.heap.size) := HZ0
    rw [← hwd] at HS_wd HB_wd HZ_wd
    have hS_wd : (fun wx => wx.heap[a0]? = some (Obj.cells #[vp, vl, .int .i64 s.m.tx, .int .i64 s.m.root, .int .i64 s.m.next, vf, .slice aR L cR, .int .i64 s.tm.tx, .int .i64 s.tm.root, .int .i64 s.tm.next, vr, up, ul, .int .i64 s.tk.next, uu, ug, uf, .int .i64 s.tr, .bool s.wr, .bool s.fl] 50)) wd := sep_get HS_wd.out 1 rfl
    refine wp_region_held_drew (S := fun wx => wx.heap[a0]? = some (Obj.cells #[vp, vl, .int .i64 s.m.tx, .int .i64 s.m.root, .int .i64 s.m.next, vf, .slice aR L cR, .int .i64 s.tm.tx, .int .i64 s.tm.root, .int .i64 s.tm.next, vr, up, ul, .int .i64 s.tk.next, uu, ug, uf, .int .i64 s.tr, .bool s.wr, .bool s.fl] 50)) (by kernel_rfl) (by rw [← hwd]; exact hS_wd) (fun _ => ?_)
    rw [← hwd]
    clear hwd
    refine takeW 0 5 ?_ rfl rfl (by kernel_rfl) (by kernel_rfl) (by kernel_rfl) (fun _ _ _ h => h) (Or.inl ⟨by rfl, ?_⟩) hS_wd ?_
    rotate_left
    · (intro wx hSw; (try dsimp only at hSw); go_simp; try with_reducible rfl)
    simp only [List.setIfInBounds_toArray, List.set_cons_zero, List.set_cons_succ]
    refine takeW 1 6 (.agg #[vp, vl]) rfl rfl (by kernel_rfl) (by kernel_rfl) (by kernel_rfl) (fun _ _ _ h => h) (yields_loadL (by rfl) 40 (.tmp 5) rfl a0 0 rfl #[vp, vl] _ (fun _ h => range_of h 0 2) Tryz.underlying40 rfl Tryz.sizeDiskS) hS_wd ?_
    simp only [List.setIfInBounds_toArray, List.set_cons_zero, List.set_cons_succ]
    refine takeW 3 8 ?_ rfl rfl (by kernel_rfl) (by kernel_rfl) (by kernel_rfl) (fun _ _ _ h => h) (Or.inl ⟨by rfl, ?_⟩) hS_wd ?_
    rotate_left
    · (intro wx hSw; (try dsimp only at hSw); go_simp; try with_reducible rfl)
    simp only [List.setIfInBounds_toArray, List.set_cons_zero, List.set_cons_succ]
    refine takeW 4 9 (.agg #[.int .i64 s.m.tx, .int .i64 s.m.root, .int .i64 s.m.next, vf]) rfl rfl (by kernel_rfl) (by kernel_rfl) (by kernel_rfl) (fun _ _ _ h => h) (yields_loadL (by rfl) 43 (.tmp 8) rfl a0 2 rfl #[.int .i64 s.m.tx, .int .i64 s.m.root, .int .i64 s.m.next, vf] _ (fun _ h => range_of h 2 4) Tryz.underlying43 rfl Tryz.sizeMetaS) hS_wd ?_
    simp only [List.setIfInBounds_toArray, List.set_cons_zero, List.set_cons_succ]
    refine takeW 6 11 ?_ rfl rfl (by kernel_rfl) (by kernel_rfl) (by kernel_rfl) (fun _ _ _ h => h) (Or.inl ⟨by rfl, ?_⟩) hS_wd ?_
    rotate_left
    · (intro wx hSw; (try dsimp only at hSw); go_simp; try with_reducible rfl)
    simp only [List.setIfInBounds_toArray, List.set_cons_zero, List.set_cons_succ]
    refine takeW 7 12 (.agg #[.int .i64 s.tm.tx, .int .i64 s.tm.root, .int .i64 s.tm.next, vr, up, ul, .int .i64 s.tk.next, uu, ug, uf, .int .i64 s.tr]) rfl rfl (by kernel_rfl) (by kernel_rfl) (by kernel_rfl) (fun _ _ _ h => h) (yields_loadL (by rfl) 48 (.tmp 11) rfl a0 7 rfl #[.int .i64 s.tm.tx, .int .i64 s.tm.root, .int .i64 s.tm.next, vr, up, ul, .int .i64 s.tk.next, uu, ug, uf, .int .i64 s.tr] _ (fun _ h => range_of h 7 11) Tryz.underlying48 rfl Tryz.sizeTxn) hS_wd ?_
    simp only [List.setIfInBounds_toArray, List.set_cons_zero, List.set_cons_succ]
    refine takeW 9 14 ?_ rfl rfl (by kernel_rfl) (by kernel_rfl) (by kernel_rfl) (fun _ _ _ h => h) (Or.inl ⟨by rfl, ?_⟩) hS_wd ?_
    rotate_left
    · (intro wx hSw; (try dsimp only at hSw); go_simp; try with_reducible rfl)
    simp only [List.setIfInBounds_toArray, List.set_cons_zero, List.set_cons_succ]
    refine takeW 10 15 ?_ rfl rfl (by kernel_rfl) (by kernel_rfl) (by kernel_rfl) (fun _ _ _ h => h) (Or.inl ⟨by rfl, ?_⟩) hS_wd ?_
    rotate_left
    · (intro wx hSw; (try dsimp only at hSw); have hc18 : wx.cell? ⟨a0, 18, none⟩ = some (.bool s.wr) := (cell_at hSw 18).1; go_simp; try with_reducible rfl)
    simp only [List.setIfInBounds_toArray, List.set_cons_zero, List.set_cons_succ]
    refine takeW 11 16 ?_ rfl rfl (by kernel_rfl) (by kernel_rfl) (by kernel_rfl) (fun _ _ _ h => h) (Or.inl ⟨by rfl, ?_⟩) hS_wd ?_
    rotate_left
    · (intro wx hSw; (try dsimp only at hSw); go_simp; try with_reducible rfl)
    simp only [List.setIfInBounds_toArray, List.set_cons_zero, List.set_cons_succ]
    refine takeW 12 17 ?_ rfl rfl (by kernel_rfl) (by kernel_rfl) (by kernel_rfl) (fun _ _ _ h => h) (Or.inl ⟨by rfl, ?_⟩) hS_wd ?_
    rotate_left
    · (intro wx hSw; (try dsimp only at hSw); have hc19 : wx.cell? ⟨a0, 19, none⟩ = some (.bool s.fl) := (cell_at hSw 19).1; go_simp; try with_reducible rfl)
    simp only [List.setIfInBounds_toArray, List.set_cons_zero, List.set_cons_succ]
    refine wpAnyH_ready (rs := [2, 14]) (by kernel_rfl) (by simp) ?_
    refine ready2 rfl rfl ⟨?_, ?_⟩
    · intro K hK
      refine step_call1 wd ?_ 43 Tryz.f43 Tryz.func43 ?_ ?_ (.tmp 6) #[40] ?_ (.agg #[vp, vl]) ?_ _ (HCd.out _ wd (disk_below HD.out HB_wd.out)) ?_
      · exact rfl
      · decide
      · exact Option.some_ne_none _
      · exact rfl
      · exact rfl
      rintro e x1 ⟨v1, rfl, ho, hb⟩
      refine ⟨_, rfl, ?_⟩
      obtain ⟨p1, q1, p2, q2, rfl⟩ := disk_form ho
      have HS_x1 := hide (sep_add HS_wd.out hb (diskA a0 _ s.ps s.ls) (disk_downQ ho HZ_wd.out) (fun j hj => diskOwn_lt ho j hj) HZ_wd.out)
      have HB_x1 : Hid (Below w.heap.size w x1) := hide (HB_wd.out.trans (hb.mono HB_wd.out.size))
      have HZ_x1 : Hid (a0 ≤ x1.heap.size) := hide (Nat.le_trans HZ_wd.out hb.size)
      have hS_x1 : (fun wx => wx.heap[a0]? = some (Obj.cells #[vp, vl, .int .i64 s.m.tx, .int .i64 s.m.root, .int .i64 s.m.next, vf, .slice aR L cR, .int .i64 s.tm.tx, .int .i64 s.tm.root, .int .i64 s.tm.next, vr, up, ul, .int .i64 s.tk.next, uu, ug, uf, .int .i64 s.tr, .bool s.wr, .bool s.fl] 50)) x1 := sep_get HS_x1.out 2 rfl
      refine hK.out (Act.put _ (some 7) _) _ hS_x1 (fun _ => ?_)
      clear hK K hb ho
      simp only [Act.put, List.setIfInBounds_toArray, List.set_cons_zero, List.set_cons_succ]
      refine wpAnyH_ready (rs := [5, 14]) (by kernel_rfl) (by simp) ?_
      refine ready2 rfl rfl ⟨?_, ?_⟩
      · intro K hK
        refine step_call1 x1 ?_ 18 Tryz.f18 Tryz.func18 ?_ ?_ (.tmp 9) #[43] ?_ (.agg #[.int .i64 s.m.tx, .int .i64 s.m.root, .int .i64 s.m.next, vf]) ?_ _ (HCm.out _ x1 (meta_below HM.out HB_x1.out)) ?_
        · exact rfl
        · decide
        · exact Option.some_ne_none _
        · exact rfl
        · exact rfl
        rintro e x2 ⟨v1, rfl, hm, hb⟩
        refine ⟨_, rfl, ?_⟩
        obtain ⟨xr, l1, ev, ho⟩ := hm
        obtain ⟨p3, q3, rfl⟩ := own_slice ho.1
        subst ev
        have HS_x2 := hide (sep_add HS_x1.out hb (freesA a0 (.slice p3 s.m.fs.length q3) l1 s.m.fs) (ownF_down ho HZ_x1.out) (fun j hj => ownF_lt ho j hj) HZ_x1.out)
        have HB_x2 : Hid (Below w.heap.size w x2) := hide (HB_x1.out.trans (hb.mono HB_x1.out.size))
        have HZ_x2 : Hid (a0 ≤ x2.heap.size) := hide (Nat.le_trans HZ_x1.out hb.size)
        have hS_x2 : (fun wx => wx.heap[a0]? = some (Obj.cells #[vp, vl, .int .i64 s.m.tx, .int .i64 s.m.root, .int .i64 s.m.next, vf, .slice aR L cR, .int .i64 s.tm.tx, .int .i64 s.tm.root, .int .i64 s.tm.next, vr, up, ul, .int .i64 s.tk.next, uu, ug, uf, .int .i64 s.tr, .bool s.wr, .bool s.fl] 50)) x2 := sep_get HS_x2.out 3 rfl
        refine hK.out (Act.put _ (some 10) _) _ hS_x2 (fun _ => ?_)
        clear hK K hb ho
        simp only [Act.put, List.setIfInBounds_toArray, List.set_cons_zero, List.set_cons_succ]
        refine wpAnyH_ready (rs := [8, 14]) (by kernel_rfl) (by simp) ?_
        refine ready2 rfl rfl ⟨?_, ?_⟩
        · intro K hK
          refine step_call1 x2 ?_ 44 Tryz.f44 Tryz.func44 ?_ ?_ (.tmp 12) #[48] ?_ (.agg #[.int .i64 s.tm.tx, .int .i64 s.tm.root, .int .i64 s.tm.next, vr, up, ul, .int .i64 s.tk.next, uu, ug, uf, .int .i64 s.tr]) ?_ _ (HCt.out _ x2 (txn_below HT.out HB_x2.out)) ?_
          · exact rfl
          · decide
          · exact Option.some_ne_none _
          · exact rfl
          · exact rfl
          rintro e x3 ⟨v1, rfl, hm, hb⟩
          refine ⟨_, rfl, ?_⟩
          obtain ⟨l2, p5, q5, p6, q6, p7, q7, p8, q8, p9, q9, p10, q10, ev, ho⟩ := hm
          subst ev
          have HS_x3 := hide (sep_joinL (l'' := [freesA a0 (.slice p5 s.tm.fs.length q5) l2 s.tm.fs, workA a0 (.agg #[.slice p6 s.tk.ps.length q6, .slice p7 s.tk.ls.length q7, .int .i64 s.tk.next, .slice p8 s.tk.us.length q8, .slice p9 s.tk.gs.length q9, .slice p10 s.tk.fs.length q10]) s.tk]) HS_x2.out hb ho ⟨asIs_frees HZ_x2.out _ _ _, asIs_work HZ_x2.out _ _, trivial⟩ HZ_x2.out)
          have HB_x3 : Hid (Below w.heap.size w x3) := hide (HB_x2.out.trans (hb.mono HB_x2.out.size))
          have HZ_x3 : Hid (a0 ≤ x3.heap.size) := hide (Nat.le_trans HZ_x2.out hb.size)
          have hS_x3 : (fun wx => wx.heap[a0]? = some (Obj.cells #[vp, vl, .int .i64 s.m.tx, .int .i64 s.m.root, .int .i64 s.m.next, vf, .slice aR L cR, .int .i64 s.tm.tx, .int .i64 s.tm.root, .int .i64 s.tm.next, vr, up, ul, .int .i64 s.tk.next, uu, ug, uf, .int .i64 s.tr, .bool s.wr, .bool s.fl] 50)) x3 := sep_get HS_x3.out 5 rfl
          refine hK.out (Act.put _ (some 13) _) _ hS_x3 (fun _ => ?_)
          clear hK K hb ho
          simp only [Act.put, List.setIfInBounds_toArray, List.set_cons_zero, List.set_cons_succ]
          refine takeW 13 18 ?_ rfl rfl (by kernel_rfl) (by kernel_rfl) (by kernel_rfl) (fun _ _ _ h => h) (Or.inl ⟨by rfl, ?_⟩) hS_x3 ?_
          rotate_left
          · (intro wx hSw; (try dsimp only at hSw); go_simp; try with_reducible rfl)
          simp only [List.setIfInBounds_toArray, List.set_cons_zero, List.set_cons_succ]
          refine wpAnyH_ready (rs := [14]) (by kernel_rfl) (by simp) ?_
          refine AllReadyH.cons rfl (fun K hK => ?_) AllReadyH.nil
          have hxa := sep_new HS_x3.out (Obj.cells #[.slice none 0 0, .slice none 0 0, .int .i64 0, .int .i64 0, .int .i64 0, .slice none 0 0, .slice none 0 0, .int .i64 0, .int .i64 0, .int .i64 0, .slice none 0 0, .slice none 0 0, .slice none 0 0, .int .i64 0, .slice none 0 0, .slice none 0 0, .slice none 0 0, .int .i64 0, .bool false, .bool false] 50) HZ_x3.out
          have hba := HB_x3.out.alloc HB_x3.out.size (Obj.cells #[.slice none 0 0, .slice none 0 0, .int .i64 0, .int .i64 0, .int .i64 0, .slice none 0 0, .slice none 0 0, .int .i64 0, .int .i64 0, .int .i64 0, .slice none 0 0, .slice none 0 0, .slice none 0 0, .int .i64 0, .slice none 0 0, .slice none 0 0, .slice none 0 0, .int .i64 0, .bool false, .bool false] 50)
          have hza : a0 ≤ (x3.alloc (Obj.cells #[.slice none 0 0, .slice none 0 0, .int .i64 0, .int .i64 0, .int .i64 0, .slice none 0 0, .slice none 0 0, .int .i64 0, .int .i64 0, .int .i64 0, .slice none 0 0, .slice none 0 0, .slice none 0 0, .int .i64 0, .slice none 0 0, .slice none 0 0, .slice none 0 0, .int .i64 0, .bool false, .bool false] 50)).heap.size := by have := HZ_x3.out; simp; omega
          have hSa : (fun wx => wx.heap[a0]? = some (Obj.cells #[vp, vl, .int .i64 s.m.tx, .int .i64 s.m.root, .int .i64 s.m.next, vf, .slice aR L cR, .int .i64 s.tm.tx, .int .i64 s.tm.root, .int .i64 s.tm.next, vr, up, ul, .int .i64 s.tk.next, uu, ug, uf, .int .i64 s.tr, .bool s.wr, .bool s.fl] 50)) (x3.alloc (Obj.cells #[.slice none 0 0, .slice none 0 0, .int .i64 0, .int .i64 0, .int .i64 0, .slice none 0 0, .slice none 0 0, .int .i64 0, .int .i64 0, .int .i64 0, .slice none 0 0, .slice none 0 0, .slice none 0 0, .int .i64 0, .slice none 0 0, .slice none 0 0, .slice none 0 0, .int .i64 0, .bool false, .bool false] 50)) := sep_get hxa 6 rfl
          go_simp
          refine hK.out _ _ hSa (fun _ => ?_)
          clear hK K
          obtain ⟨x4, hN⟩ : ∃ wx, wx = x3.alloc (Obj.cells #[.slice none 0 0, .slice none 0 0, .int .i64 0, .int .i64 0, .int .i64 0, .slice none 0 0, .slice none 0 0, .int .i64 0, .int .i64 0, .int .i64 0, .slice none 0 0, .slice none 0 0, .slice none 0 0, .int .i64 0, .slice none 0 0, .slice none 0 0, .slice none 0 0, .int .i64 0, .bool false, .bool false] 50) := ⟨_, rfl⟩
          obtain ⟨g, hg⟩ : ∃ g, g = x3.heap.size := ⟨_, rfl⟩
          rw [← hN] at hxa hba hza hSa ⊢
          rw [← hg] at hxa ⊢
          have HS_x4 := hide hxa
          have HB_x4 := hide hba
          have HZ_x4 := hide hza
          have hS_x4 := hSa
          have HG := hide (show w.heap.size ≤ g by rw [hg]; exact HB_x3.out.size)
          clear hxa hba hza hSa hN hg
          refine wpAnyH_ready (rs := [15]) (by kernel_rfl) (by simp) ?_
          refine AllReadyH.cons rfl (fun K hK => ?_) AllReadyH.nil
          obtain ⟨x5, hN⟩ : ∃ wx, wx = x4.setCells g 0 (#[.slice p1 s.ps.length q1, .slice p2 s.ls.length q2, .int .i64 s.m.tx, .int .i64 s.m.root, .int .i64 s.m.next, .slice p3 s.m.fs.length q3, .slice none 0 0, .int .i64 s.tm.tx, .int .i64 s.tm.root, .int .i64 s.tm.next, .slice p5 s.tm.fs.length q5, .slice p6 s.tk.ps.length q6, .slice p7 s.tk.ls.length q7, .int .i64 s.tk.next, .slice p8 s.tk.us.length q8, .slice p9 s.tk.gs.length q9, .slice p10 s.tk.fs.length q10, .int .i64 s.tr, .bool s.wr, .bool s.fl] : Array Value).toList := ⟨_, rfl⟩
          have hs9 := sep_cellsAll HS_x4.out 0 rfl #[.slice p1 s.ps.length q1, .slice p2 s.ls.length q2, .int .i64 s.m.tx, .int .i64 s.m.root, .int .i64 s.m.next, .slice p3 s.m.fs.length q3, .slice none 0 0, .int .i64 s.tm.tx, .int .i64 s.tm.root, .int .i64 s.tm.next, .slice p5 s.tm.fs.length q5, .slice p6 s.tk.ps.length q6, .slice p7 s.tk.ls.length q7, .int .i64 s.tk.next, .slice p8 s.tk.us.length q8, .slice p9 s.tk.gs.length q9, .slice p10 s.tk.fs.length q10, .int .i64 s.tr, .bool s.wr, .bool s.fl] rfl
          have hb9 := below_cells HG.out (#[.slice p1 s.ps.length q1, .slice p2 s.ls.length q2, .int .i64 s.m.tx, .int .i64 s.m.root, .int .i64 s.m.next, .slice p3 s.m.fs.length q3, .slice none 0 0, .int .i64 s.tm.tx, .int .i64 s.tm.root, .int .i64 s.tm.next, .slice p5 s.tm.fs.length q5, .slice p6 s.tk.ps.length q6, .slice p7 s.tk.ls.length q7, .int .i64 s.tk.next, .slice p8 s.tk.us.length q8, .slice p9 s.tk.gs.length q9, .slice p10 s.tk.fs.length q10, .int .i64 s.tr, .bool s.wr, .bool s.fl] : Array Value).toList 0 x4 HB_x4.out
          have hz9 : a0 ≤ x5.heap.size := by rw [hN, size_cells]; exact HZ_x4.out
          rw [← hN] at hs9 hb9
          have HS9 := hide (sep_pick (pre := [_, _, _, _, _, _, _]) (rest := []) hs9 [0, 4, 3, 1, 2, 5, 6] (by decide) [_, _, _, _, _, _, _] rfl)
          have HB9 := hide hb9
          have HZ9 := hide hz9
          have hS9 : (fun wx => wx.heap[a0]? = some (Obj.cells #[vp, vl, .int .i64 s.m.tx, .int .i64 s.m.root, .int .i64 s.m.next, vf, .slice aR L cR, .int .i64 s.tm.tx, .int .i64 s.tm.root, .int .i64 s.tm.next, vr, up, ul, .int .i64 s.tk.next, uu, ug, uf, .int .i64 s.tr, .bool s.wr, .bool s.fl] 50)) x5 := sep_get HS9.out 6 rfl
          have hth : x4.there g 0 (#[.slice p1 s.ps.length q1, .slice p2 s.ls.length q2, .int .i64 s.m.tx, .int .i64 s.m.root, .int .i64 s.m.next, .slice p3 s.m.fs.length q3, .slice none 0 0, .int .i64 s.tm.tx, .int .i64 s.tm.root, .int .i64 s.tm.next, .slice p5 s.tm.fs.length q5, .slice p6 s.tk.ps.length q6, .slice p7 s.tk.ls.length q7, .int .i64 s.tk.next, .slice p8 s.tk.us.length q8, .slice p9 s.tk.gs.length q9, .slice p10 s.tk.fs.length q10, .int .i64 s.tr, .bool s.wr, .bool s.fl] : Array Value).size := there_of (sep_get HS_x4.out 0 rfl : x4.heap[g]? = some (Obj.cells #[.slice none 0 0, .slice none 0 0, .int .i64 0, .int .i64 0, .int .i64 0, .slice none 0 0, .slice none 0 0, .int .i64 0, .int .i64 0, .int .i64 0, .slice none 0 0, .slice none 0 0, .slice none 0 0, .int .i64 0, .slice none 0 0, .slice none 0 0, .slice none 0 0, .int .i64 0, .bool false, .bool false] 50)) 0 20 (show 0 + 20 ≤ 20 by decide)
          refine step_storeL ?_ 50 (.tmp 3) (.tmp 18) ?_ g 0 #[.slice p1 s.ps.length q1, .slice p2 s.ls.length q2, .int .i64 s.m.tx, .int .i64 s.m.root, .int .i64 s.m.next, .slice p3 s.m.fs.length q3, .slice none 0 0, .int .i64 s.tm.tx, .int .i64 s.tm.root, .int .i64 s.tm.next, .slice p5 s.tm.fs.length q5, .slice p6 s.tk.ps.length q6, .slice p7 s.tk.ls.length q7, .int .i64 s.tk.next, .slice p8 s.tk.us.length q8, .slice p9 s.tk.gs.length q9, .slice p10 s.tk.fs.length q10, .int .i64 s.tr, .bool s.wr, .bool s.fl] ?_ ?_ hth ?_ ?_ hN.symm ?_
          · exact rfl
          · exact rfl
          · exact rfl
          · exact rfl
          · exact Tryz.sizeStore
          · exact rfl
          clear hth hs9 hb9 hz9 hN
          refine hK.out _ _ hS9 (fun _ => ?_)
          clear hK K
          refine wpAnyH_done (by kernel_rfl) ?_ _
          go_wp2_with fail
          go_meet
          case rel => exact ⟨g, p1, q1, p2, q2, p3, q3, p5, q5, p6, q6, p7, q7, p8, q8, p9, q9, p10, q10, l1, l2, rfl, HS9, HB9, HZ9⟩
        · intro K hK
          have hxa := sep_new HS_x2.out (Obj.cells #[.slice none 0 0, .slice none 0 0, .int .i64 0, .int .i64 0, .int .i64 0, .slice none 0 0, .slice none 0 0, .int .i64 0, .int .i64 0, .int .i64 0, .slice none 0 0, .slice none 0 0, .slice none 0 0, .int .i64 0, .slice none 0 0, .slice none 0 0, .slice none 0 0, .int .i64 0, .bool false, .bool false] 50) HZ_x2.out
          have hba := HB_x2.out.alloc HB_x2.out.size (Obj.cells #[.slice none 0 0, .slice none 0 0, .int .i64 0, .int .i64 0, .int .i64 0, .slice none 0 0, .slice none 0 0, .int .i64 0, .int .i64 0, .int .i64 0, .slice none 0 0, .slice none 0 0, .slice none 0 0, .int .i64 0, .slice none 0 0, .slice none 0 0, .slice none 0 0, .int .i64 0, .bool false, .bool false] 50)
          have hza : a0 ≤ (x2.alloc (Obj.cells #[.slice none 0 0, .slice none 0 0, .int .i64 0, .int .i64 0, .int .i64 0, .slice none 0 0, .slice none 0 0, .int .i64 0, .int .i64 0, .int .i64 0, .slice none 0 0, .slice none 0 0, .slice none 0 0, .int .i64 0, .slice none 0 0, .slice none 0 0, .slice none 0 0, .int .i64 0, .bool false, .bool false] 50)).heap.size := by have := HZ_x2.out; simp; omega
          have hSa : (fun wx => wx.heap[a0]? = some (Obj.cells #[vp, vl, .int .i64 s.m.tx, .int .i64 s.m.root, .int .i64 s.m.next, vf, .slice aR L cR, .int .i64 s.tm.tx, .int .i64 s.tm.root, .int .i64 s.tm.next, vr, up, ul, .int .i64 s.tk.next, uu, ug, uf, .int .i64 s.tr, .bool s.wr, .bool s.fl] 50)) (x2.alloc (Obj.cells #[.slice none 0 0, .slice none 0 0, .int .i64 0, .int .i64 0, .int .i64 0, .slice none 0 0, .slice none 0 0, .int .i64 0, .int .i64 0, .int .i64 0, .slice none 0 0, .slice none 0 0, .slice none 0 0, .int .i64 0, .slice none 0 0, .slice none 0 0, .slice none 0 0, .int .i64 0, .bool false, .bool false] 50)) := sep_get hxa 4 rfl
          go_simp
          refine hK.out _ _ hSa (fun _ => ?_)
          clear hK K
          obtain ⟨x6, hN⟩ : ∃ wx, wx = x2.alloc (Obj.cells #[.slice none 0 0, .slice none 0 0, .int .i64 0, .int .i64 0, .int .i64 0, .slice none 0 0, .slice none 0 0, .int .i64 0, .int .i64 0, .int .i64 0, .slice none 0 0, .slice none 0 0, .slice none 0 0, .int .i64 0, .slice none 0 0, .slice none 0 0, .slice none 0 0, .int .i64 0, .bool false, .bool false] 50) := ⟨_, rfl⟩
          obtain ⟨g, hg⟩ : ∃ g, g = x2.heap.size := ⟨_, rfl⟩
          rw [← hN] at hxa hba hza hSa ⊢
          rw [← hg] at hxa ⊢
          have HS_x6 := hide hxa
          have HB_x6 := hide hba
          have HZ_x6 := hide hza
          have hS_x6 := hSa
          have HG := hide (show w.heap.size ≤ g by rw [hg]; exact HB_x2.out.size)
          clear hxa hba hza hSa hN hg
          refine wpAnyH_ready (rs := [8]) (by kernel_rfl) (by simp) ?_
          refine AllReadyH.cons rfl (fun K hK => ?_) AllReadyH.nil
          refine step_call1 x6 ?_ 44 Tryz.f44 Tryz.func44 ?_ ?_ (.tmp 12) #[48] ?_ (.agg #[.int .i64 s.tm.tx, .int .i64 s.tm.root, .int .i64 s.tm.next, vr, up, ul, .int .i64 s.tk.next, uu, ug, uf, .int .i64 s.tr]) ?_ _ (HCt.out _ x6 (txn_below HT.out HB_x6.out)) ?_
          · exact rfl
          · decide
          · exact Option.some_ne_none _
          · exact rfl
          · exact rfl
          rintro e x7 ⟨v1, rfl, hm, hb⟩
          refine ⟨_, rfl, ?_⟩
          obtain ⟨l2, p5, q5, p6, q6, p7, q7, p8, q8, p9, q9, p10, q10, ev, ho⟩ := hm
          subst ev
          have HS_x7 := hide (sep_joinL (l'' := [freesA a0 (.slice p5 s.tm.fs.length q5) l2 s.tm.fs, workA a0 (.agg #[.slice p6 s.tk.ps.length q6, .slice p7 s.tk.ls.length q7, .int .i64 s.tk.next, .slice p8 s.tk.us.length q8, .slice p9 s.tk.gs.length q9, .slice p10 s.tk.fs.length q10]) s.tk]) HS_x6.out hb ho ⟨asIs_frees HZ_x6.out _ _ _, asIs_work HZ_x6.out _ _, trivial⟩ HZ_x6.out)
          have HB_x7 : Hid (Below w.heap.size w x7) := hide (HB_x6.out.trans (hb.mono HB_x6.out.size))
          have HZ_x7 : Hid (a0 ≤ x7.heap.size) := hide (Nat.le_trans HZ_x6.out hb.size)
          have hS_x7 : (fun wx => wx.heap[a0]? = some (Obj.cells #[vp, vl, .int .i64 s.m.tx, .int .i64 s.m.root, .int .i64 s.m.next, vf, .slice aR L cR, .int .i64 s.tm.tx, .int .i64 s.tm.root, .int .i64 s.tm.next, vr, up, ul, .int .i64 s.tk.next, uu, ug, uf, .int .i64 s.tr, .bool s.wr, .bool s.fl] 50)) x7 := sep_get HS_x7.out 6 rfl
          refine hK.out (Act.put _ (some 13) _) _ hS_x7 (fun _ => ?_)
          clear hK K hb ho
          simp only [Act.put, List.setIfInBounds_toArray, List.set_cons_zero, List.set_cons_succ]
          refine takeW 13 18 ?_ rfl rfl (by kernel_rfl) (by kernel_rfl) (by kernel_rfl) (fun _ _ _ h => h) (Or.inl ⟨by rfl, ?_⟩) hS_x7 ?_
          rotate_left
          · (intro wx hSw; (try dsimp only at hSw); go_simp; try with_reducible rfl)
          simp only [List.setIfInBounds_toArray, List.set_cons_zero, List.set_cons_succ]
          refine wpAnyH_ready (rs := [15]) (by kernel_rfl) (by simp) ?_
          refine AllReadyH.cons rfl (fun K hK => ?_) AllReadyH.nil
          obtain ⟨x8, hN⟩ : ∃ wx, wx = x7.setCells g 0 (#[.slice p1 s.ps.length q1, .slice p2 s.ls.length q2, .int .i64 s.m.tx, .int .i64 s.m.root, .int .i64 s.m.next, .slice p3 s.m.fs.length q3, .slice none 0 0, .int .i64 s.tm.tx, .int .i64 s.tm.root, .int .i64 s.tm.next, .slice p5 s.tm.fs.length q5, .slice p6 s.tk.ps.length q6, .slice p7 s.tk.ls.length q7, .int .i64 s.tk.next, .slice p8 s.tk.us.length q8, .slice p9 s.tk.gs.length q9, .slice p10 s.tk.fs.length q10, .int .i64 s.tr, .bool s.wr, .bool s.fl] : Array Value).toList := ⟨_, rfl⟩
          have hs9 := sep_cellsAll HS_x7.out 2 rfl #[.slice p1 s.ps.length q1, .slice p2 s.ls.length q2, .int .i64 s.m.tx, .int .i64 s.m.root, .int .i64 s.m.next, .slice p3 s.m.fs.length q3, .slice none 0 0, .int .i64 s.tm.tx, .int .i64 s.tm.root, .int .i64 s.tm.next, .slice p5 s.tm.fs.length q5, .slice p6 s.tk.ps.length q6, .slice p7 s.tk.ls.length q7, .int .i64 s.tk.next, .slice p8 s.tk.us.length q8, .slice p9 s.tk.gs.length q9, .slice p10 s.tk.fs.length q10, .int .i64 s.tr, .bool s.wr, .bool s.fl] rfl
          have hb9 := below_cells HG.out (#[.slice p1 s.ps.length q1, .slice p2 s.ls.length q2, .int .i64 s.m.tx, .int .i64 s.m.root, .int .i64 s.m.next, .slice p3 s.m.fs.length q3, .slice none 0 0, .int .i64 s.tm.tx, .int .i64 s.tm.root, .int .i64 s.tm.next, .slice p5 s.tm.fs.length q5, .slice p6 s.tk.ps.length q6, .slice p7 s.tk.ls.length q7, .int .i64 s.tk.next, .slice p8 s.tk.us.length q8, .slice p9 s.tk.gs.length q9, .slice p10 s.tk.fs.length q10, .int .i64 s.tr, .bool s.wr, .bool s.fl] : Array Value).toList 0 x7 HB_x7.out
          have hz9 : a0 ≤ x8.heap.size := by rw [hN, size_cells]; exact HZ_x7.out
          rw [← hN] at hs9 hb9
          have HS9 := hide (sep_pick (pre := [_, _, _, _, _, _, _]) (rest := []) hs9 [2, 4, 3, 0, 1, 5, 6] (by decide) [_, _, _, _, _, _, _] rfl)
          have HB9 := hide hb9
          have HZ9 := hide hz9
          have hS9 : (fun wx => wx.heap[a0]? = some (Obj.cells #[vp, vl, .int .i64 s.m.tx, .int .i64 s.m.root, .int .i64 s.m.next, vf, .slice aR L cR, .int .i64 s.tm.tx, .int .i64 s.tm.root, .int .i64 s.tm.next, vr, up, ul, .int .i64 s.tk.next, uu, ug, uf, .int .i64 s.tr, .bool s.wr, .bool s.fl] 50)) x8 := sep_get HS9.out 6 rfl
          have hth : x7.there g 0 (#[.slice p1 s.ps.length q1, .slice p2 s.ls.length q2, .int .i64 s.m.tx, .int .i64 s.m.root, .int .i64 s.m.next, .slice p3 s.m.fs.length q3, .slice none 0 0, .int .i64 s.tm.tx, .int .i64 s.tm.root, .int .i64 s.tm.next, .slice p5 s.tm.fs.length q5, .slice p6 s.tk.ps.length q6, .slice p7 s.tk.ls.length q7, .int .i64 s.tk.next, .slice p8 s.tk.us.length q8, .slice p9 s.tk.gs.length q9, .slice p10 s.tk.fs.length q10, .int .i64 s.tr, .bool s.wr, .bool s.fl] : Array Value).size := there_of (sep_get HS_x7.out 2 rfl : x7.heap[g]? = some (Obj.cells #[.slice none 0 0, .slice none 0 0, .int .i64 0, .int .i64 0, .int .i64 0, .slice none 0 0, .slice none 0 0, .int .i64 0, .int .i64 0, .int .i64 0, .slice none 0 0, .slice none 0 0, .slice none 0 0, .int .i64 0, .slice none 0 0, .slice none 0 0, .slice none 0 0, .int .i64 0, .bool false, .bool false] 50)) 0 20 (show 0 + 20 ≤ 20 by decide)
          refine step_storeL ?_ 50 (.tmp 3) (.tmp 18) ?_ g 0 #[.slice p1 s.ps.length q1, .slice p2 s.ls.length q2, .int .i64 s.m.tx, .int .i64 s.m.root, .int .i64 s.m.next, .slice p3 s.m.fs.length q3, .slice none 0 0, .int .i64 s.tm.tx, .int .i64 s.tm.root, .int .i64 s.tm.next, .slice p5 s.tm.fs.length q5, .slice p6 s.tk.ps.length q6, .slice p7 s.tk.ls.length q7, .int .i64 s.tk.next, .slice p8 s.tk.us.length q8, .slice p9 s.tk.gs.length q9, .slice p10 s.tk.fs.length q10, .int .i64 s.tr, .bool s.wr, .bool s.fl] ?_ ?_ hth ?_ ?_ hN.symm ?_
          · exact rfl
          · exact rfl
          · exact rfl
          · exact rfl
          · exact Tryz.sizeStore
          · exact rfl
          clear hth hs9 hb9 hz9 hN
          refine hK.out _ _ hS9 (fun _ => ?_)
          clear hK K
          refine wpAnyH_done (by kernel_rfl) ?_ _
          go_wp2_with fail
          go_meet
          case rel => exact ⟨g, p1, q1, p2, q2, p3, q3, p5, q5, p6, q6, p7, q7, p8, q8, p9, q9, p10, q10, l1, l2, rfl, HS9, HB9, HZ9⟩
      · intro K hK
        have hxa := sep_new HS_x1.out (Obj.cells #[.slice none 0 0, .slice none 0 0, .int .i64 0, .int .i64 0, .int .i64 0, .slice none 0 0, .slice none 0 0, .int .i64 0, .int .i64 0, .int .i64 0, .slice none 0 0, .slice none 0 0, .slice none 0 0, .int .i64 0, .slice none 0 0, .slice none 0 0, .slice none 0 0, .int .i64 0, .bool false, .bool false] 50) HZ_x1.out
        have hba := HB_x1.out.alloc HB_x1.out.size (Obj.cells #[.slice none 0 0, .slice none 0 0, .int .i64 0, .int .i64 0, .int .i64 0, .slice none 0 0, .slice none 0 0, .int .i64 0, .int .i64 0, .int .i64 0, .slice none 0 0, .slice none 0 0, .slice none 0 0, .int .i64 0, .slice none 0 0, .slice none 0 0, .slice none 0 0, .int .i64 0, .bool false, .bool false] 50)
        have hza : a0 ≤ (x1.alloc (Obj.cells #[.slice none 0 0, .slice none 0 0, .int .i64 0, .int .i64 0, .int .i64 0, .slice none 0 0, .slice none 0 0, .int .i64 0, .int .i64 0, .int .i64 0, .slice none 0 0, .slice none 0 0, .slice none 0 0, .int .i64 0, .slice none 0 0, .slice none 0 0, .slice none 0 0, .int .i64 0, .bool false, .bool false] 50)).heap.size := by have := HZ_x1.out; simp; omega
        have hSa : (fun wx => wx.heap[a0]? = some (Obj.cells #[vp, vl, .int .i64 s.m.tx, .int .i64 s.m.root, .int .i64 s.m.next, vf, .slice aR L cR, .int .i64 s.tm.tx, .int .i64 s.tm.root, .int .i64 s.tm.next, vr, up, ul, .int .i64 s.tk.next, uu, ug, uf, .int .i64 s.tr, .bool s.wr, .bool s.fl] 50)) (x1.alloc (Obj.cells #[.slice none 0 0, .slice none 0 0, .int .i64 0, .int .i64 0, .int .i64 0, .slice none 0 0, .slice none 0 0, .int .i64 0, .int .i64 0, .int .i64 0, .slice none 0 0, .slice none 0 0, .slice none 0 0, .int .i64 0, .slice none 0 0, .slice none 0 0, .slice none 0 0, .int .i64 0, .bool false, .bool false] 50)) := sep_get hxa 3 rfl
        go_simp
        refine hK.out _ _ hSa (fun _ => ?_)
        clear hK K
        obtain ⟨x9, hN⟩ : ∃ wx, wx = x1.alloc (Obj.cells #[.slice none 0 0, .slice none 0 0, .int .i64 0, .int .i64 0, .int .i64 0, .slice none 0 0, .slice none 0 0, .int .i64 0, .int .i64 0, .int .i64 0, .slice none 0 0, .slice none 0 0, .slice none 0 0, .int .i64 0, .slice none 0 0, .slice none 0 0, .slice none 0 0, .int .i64 0, .bool false, .bool false] 50) := ⟨_, rfl⟩
        obtain ⟨g, hg⟩ : ∃ g, g = x1.heap.size := ⟨_, rfl⟩
        rw [← hN] at hxa hba hza hSa ⊢
        rw [← hg] at hxa ⊢
        have HS_x9 := hide hxa
        have HB_x9 := hide hba
        have HZ_x9 := hide hza
        have hS_x9 := hSa
        have HG := hide (show w.heap.size ≤ g by rw [hg]; exact HB_x1.out.size)
        clear hxa hba hza hSa hN hg
        refine wpAnyH_ready (rs := [5]) (by kernel_rfl) (by simp) ?_
        refine AllReadyH.cons rfl (fun K hK => ?_) AllReadyH.nil
        refine step_call1 x9 ?_ 18 Tryz.f18 Tryz.func18 ?_ ?_ (.tmp 9) #[43] ?_ (.agg #[.int .i64 s.m.tx, .int .i64 s.m.root, .int .i64 s.m.next, vf]) ?_ _ (HCm.out _ x9 (meta_below HM.out HB_x9.out)) ?_
        · exact rfl
        · decide
        · exact Option.some_ne_none _
        · exact rfl
        · exact rfl
        rintro e x10 ⟨v1, rfl, hm, hb⟩
        refine ⟨_, rfl, ?_⟩
        obtain ⟨xr, l1, ev, ho⟩ := hm
        obtain ⟨p3, q3, rfl⟩ := own_slice ho.1
        subst ev
        have HS_x10 := hide (sep_add HS_x9.out hb (freesA a0 (.slice p3 s.m.fs.length q3) l1 s.m.fs) (ownF_down ho HZ_x9.out) (fun j hj => ownF_lt ho j hj) HZ_x9.out)
        have HB_x10 : Hid (Below w.heap.size w x10) := hide (HB_x9.out.trans (hb.mono HB_x9.out.size))
        have HZ_x10 : Hid (a0 ≤ x10.heap.size) := hide (Nat.le_trans HZ_x9.out hb.size)
        have hS_x10 : (fun wx => wx.heap[a0]? = some (Obj.cells #[vp, vl, .int .i64 s.m.tx, .int .i64 s.m.root, .int .i64 s.m.next, vf, .slice aR L cR, .int .i64 s.tm.tx, .int .i64 s.tm.root, .int .i64 s.tm.next, vr, up, ul, .int .i64 s.tk.next, uu, ug, uf, .int .i64 s.tr, .bool s.wr, .bool s.fl] 50)) x10 := sep_get HS_x10.out 4 rfl
        refine hK.out (Act.put _ (some 10) _) _ hS_x10 (fun _ => ?_)
        clear hK K hb ho
        simp only [Act.put, List.setIfInBounds_toArray, List.set_cons_zero, List.set_cons_succ]
        refine wpAnyH_ready (rs := [8]) (by kernel_rfl) (by simp) ?_
        refine AllReadyH.cons rfl (fun K hK => ?_) AllReadyH.nil
        refine step_call1 x10 ?_ 44 Tryz.f44 Tryz.func44 ?_ ?_ (.tmp 12) #[48] ?_ (.agg #[.int .i64 s.tm.tx, .int .i64 s.tm.root, .int .i64 s.tm.next, vr, up, ul, .int .i64 s.tk.next, uu, ug, uf, .int .i64 s.tr]) ?_ _ (HCt.out _ x10 (txn_below HT.out HB_x10.out)) ?_
        · exact rfl
        · decide
        · exact Option.some_ne_none _
        · exact rfl
        · exact rfl
        rintro e x11 ⟨v1, rfl, hm, hb⟩
        refine ⟨_, rfl, ?_⟩
        obtain ⟨l2, p5, q5, p6, q6, p7, q7, p8, q8, p9, q9, p10, q10, ev, ho⟩ := hm
        subst ev
        have HS_x11 := hide (sep_joinL (l'' := [freesA a0 (.slice p5 s.tm.fs.length q5) l2 s.tm.fs, workA a0 (.agg #[.slice p6 s.tk.ps.length q6, .slice p7 s.tk.ls.length q7, .int .i64 s.tk.next, .slice p8 s.tk.us.length q8, .slice p9 s.tk.gs.length q9, .slice p10 s.tk.fs.length q10]) s.tk]) HS_x10.out hb ho ⟨asIs_frees HZ_x10.out _ _ _, asIs_work HZ_x10.out _ _, trivial⟩ HZ_x10.out)
        have HB_x11 : Hid (Below w.heap.size w x11) := hide (HB_x10.out.trans (hb.mono HB_x10.out.size))
        have HZ_x11 : Hid (a0 ≤ x11.heap.size) := hide (Nat.le_trans HZ_x10.out hb.size)
        have hS_x11 : (fun wx => wx.heap[a0]? = some (Obj.cells #[vp, vl, .int .i64 s.m.tx, .int .i64 s.m.root, .int .i64 s.m.next, vf, .slice aR L cR, .int .i64 s.tm.tx, .int .i64 s.tm.root, .int .i64 s.tm.next, vr, up, ul, .int .i64 s.tk.next, uu, ug, uf, .int .i64 s.tr, .bool s.wr, .bool s.fl] 50)) x11 := sep_get HS_x11.out 6 rfl
        refine hK.out (Act.put _ (some 13) _) _ hS_x11 (fun _ => ?_)
        clear hK K hb ho
        simp only [Act.put, List.setIfInBounds_toArray, List.set_cons_zero, List.set_cons_succ]
        refine takeW 13 18 ?_ rfl rfl (by kernel_rfl) (by kernel_rfl) (by kernel_rfl) (fun _ _ _ h => h) (Or.inl ⟨by rfl, ?_⟩) hS_x11 ?_
        rotate_left
        · (intro wx hSw; (try dsimp only at hSw); go_simp; try with_reducible rfl)
        simp only [List.setIfInBounds_toArray, List.set_cons_zero, List.set_cons_succ]
        refine wpAnyH_ready (rs := [15]) (by kernel_rfl) (by simp) ?_
        refine AllReadyH.cons rfl (fun K hK => ?_) AllReadyH.nil
        obtain ⟨x12, hN⟩ : ∃ wx, wx = x11.setCells g 0 (#[.slice p1 s.ps.length q1, .slice p2 s.ls.length q2, .int .i64 s.m.tx, .int .i64 s.m.root, .int .i64 s.m.next, .slice p3 s.m.fs.length q3, .slice none 0 0, .int .i64 s.tm.tx, .int .i64 s.tm.root, .int .i64 s.tm.next, .slice p5 s.tm.fs.length q5, .slice p6 s.tk.ps.length q6, .slice p7 s.tk.ls.length q7, .int .i64 s.tk.next, .slice p8 s.tk.us.length q8, .slice p9 s.tk.gs.length q9, .slice p10 s.tk.fs.length q10, .int .i64 s.tr, .bool s.wr, .bool s.fl] : Array Value).toList := ⟨_, rfl⟩
        have hs9 := sep_cellsAll HS_x11.out 3 rfl #[.slice p1 s.ps.length q1, .slice p2 s.ls.length q2, .int .i64 s.m.tx, .int .i64 s.m.root, .int .i64 s.m.next, .slice p3 s.m.fs.length q3, .slice none 0 0, .int .i64 s.tm.tx, .int .i64 s.tm.root, .int .i64 s.tm.next, .slice p5 s.tm.fs.length q5, .slice p6 s.tk.ps.length q6, .slice p7 s.tk.ls.length q7, .int .i64 s.tk.next, .slice p8 s.tk.us.length q8, .slice p9 s.tk.gs.length q9, .slice p10 s.tk.fs.length q10, .int .i64 s.tr, .bool s.wr, .bool s.fl] rfl
        have hb9 := below_cells HG.out (#[.slice p1 s.ps.length q1, .slice p2 s.ls.length q2, .int .i64 s.m.tx, .int .i64 s.m.root, .int .i64 s.m.next, .slice p3 s.m.fs.length q3, .slice none 0 0, .int .i64 s.tm.tx, .int .i64 s.tm.root, .int .i64 s.tm.next, .slice p5 s.tm.fs.length q5, .slice p6 s.tk.ps.length q6, .slice p7 s.tk.ls.length q7, .int .i64 s.tk.next, .slice p8 s.tk.us.length q8, .slice p9 s.tk.gs.length q9, .slice p10 s.tk.fs.length q10, .int .i64 s.tr, .bool s.wr, .bool s.fl] : Array Value).toList 0 x11 HB_x11.out
        have hz9 : a0 ≤ x12.heap.size := by rw [hN, size_cells]; exact HZ_x11.out
        rw [← hN] at hs9 hb9
        have HS9 := hide (sep_pick (pre := [_, _, _, _, _, _, _]) (rest := []) hs9 [3, 4, 2, 0, 1, 5, 6] (by decide) [_, _, _, _, _, _, _] rfl)
        have HB9 := hide hb9
        have HZ9 := hide hz9
        have hS9 : (fun wx => wx.heap[a0]? = some (Obj.cells #[vp, vl, .int .i64 s.m.tx, .int .i64 s.m.root, .int .i64 s.m.next, vf, .slice aR L cR, .int .i64 s.tm.tx, .int .i64 s.tm.root, .int .i64 s.tm.next, vr, up, ul, .int .i64 s.tk.next, uu, ug, uf, .int .i64 s.tr, .bool s.wr, .bool s.fl] 50)) x12 := sep_get HS9.out 6 rfl
        have hth : x11.there g 0 (#[.slice p1 s.ps.length q1, .slice p2 s.ls.length q2, .int .i64 s.m.tx, .int .i64 s.m.root, .int .i64 s.m.next, .slice p3 s.m.fs.length q3, .slice none 0 0, .int .i64 s.tm.tx, .int .i64 s.tm.root, .int .i64 s.tm.next, .slice p5 s.tm.fs.length q5, .slice p6 s.tk.ps.length q6, .slice p7 s.tk.ls.length q7, .int .i64 s.tk.next, .slice p8 s.tk.us.length q8, .slice p9 s.tk.gs.length q9, .slice p10 s.tk.fs.length q10, .int .i64 s.tr, .bool s.wr, .bool s.fl] : Array Value).size := there_of (sep_get HS_x11.out 3 rfl : x11.heap[g]? = some (Obj.cells #[.slice none 0 0, .slice none 0 0, .int .i64 0, .int .i64 0, .int .i64 0, .slice none 0 0, .slice none 0 0, .int .i64 0, .int .i64 0, .int .i64 0, .slice none 0 0, .slice none 0 0, .slice none 0 0, .int .i64 0, .slice none 0 0, .slice none 0 0, .slice none 0 0, .int .i64 0, .bool false, .bool false] 50)) 0 20 (show 0 + 20 ≤ 20 by decide)
        refine step_storeL ?_ 50 (.tmp 3) (.tmp 18) ?_ g 0 #[.slice p1 s.ps.length q1, .slice p2 s.ls.length q2, .int .i64 s.m.tx, .int .i64 s.m.root, .int .i64 s.m.next, .slice p3 s.m.fs.length q3, .slice none 0 0, .int .i64 s.tm.tx, .int .i64 s.tm.root, .int .i64 s.tm.next, .slice p5 s.tm.fs.length q5, .slice p6 s.tk.ps.length q6, .slice p7 s.tk.ls.length q7, .int .i64 s.tk.next, .slice p8 s.tk.us.length q8, .slice p9 s.tk.gs.length q9, .slice p10 s.tk.fs.length q10, .int .i64 s.tr, .bool s.wr, .bool s.fl] ?_ ?_ hth ?_ ?_ hN.symm ?_
        · exact rfl
        · exact rfl
        · exact rfl
        · exact rfl
        · exact Tryz.sizeStore
        · exact rfl
        clear hth hs9 hb9 hz9 hN
        refine hK.out _ _ hS9 (fun _ => ?_)
        clear hK K
        refine wpAnyH_done (by kernel_rfl) ?_ _
        go_wp2_with fail
        go_meet
        case rel => exact ⟨g, p1, q1, p2, q2, p3, q3, p5, q5, p6, q6, p7, q7, p8, q8, p9, q9, p10, q10, l1, l2, rfl, HS9, HB9, HZ9⟩
    · intro K hK
      have hxa := sep_new HS_wd.out (Obj.cells #[.slice none 0 0, .slice none 0 0, .int .i64 0, .int .i64 0, .int .i64 0, .slice none 0 0, .slice none 0 0, .int .i64 0, .int .i64 0, .int .i64 0, .slice none 0 0, .slice none 0 0, .slice none 0 0, .int .i64 0, .slice none 0 0, .slice none 0 0, .slice none 0 0, .int .i64 0, .bool false, .bool false] 50) HZ_wd.out
      have hba := HB_wd.out.alloc HB_wd.out.size (Obj.cells #[.slice none 0 0, .slice none 0 0, .int .i64 0, .int .i64 0, .int .i64 0, .slice none 0 0, .slice none 0 0, .int .i64 0, .int .i64 0, .int .i64 0, .slice none 0 0, .slice none 0 0, .slice none 0 0, .int .i64 0, .slice none 0 0, .slice none 0 0, .slice none 0 0, .int .i64 0, .bool false, .bool false] 50)
      have hza : a0 ≤ (wd.alloc (Obj.cells #[.slice none 0 0, .slice none 0 0, .int .i64 0, .int .i64 0, .int .i64 0, .slice none 0 0, .slice none 0 0, .int .i64 0, .int .i64 0, .int .i64 0, .slice none 0 0, .slice none 0 0, .slice none 0 0, .int .i64 0, .slice none 0 0, .slice none 0 0, .slice none 0 0, .int .i64 0, .bool false, .bool false] 50)).heap.size := by have := HZ_wd.out; simp; omega
      have hSa : (fun wx => wx.heap[a0]? = some (Obj.cells #[vp, vl, .int .i64 s.m.tx, .int .i64 s.m.root, .int .i64 s.m.next, vf, .slice aR L cR, .int .i64 s.tm.tx, .int .i64 s.tm.root, .int .i64 s.tm.next, vr, up, ul, .int .i64 s.tk.next, uu, ug, uf, .int .i64 s.tr, .bool s.wr, .bool s.fl] 50)) (wd.alloc (Obj.cells #[.slice none 0 0, .slice none 0 0, .int .i64 0, .int .i64 0, .int .i64 0, .slice none 0 0, .slice none 0 0, .int .i64 0, .int .i64 0, .int .i64 0, .slice none 0 0, .slice none 0 0, .slice none 0 0, .int .i64 0, .slice none 0 0, .slice none 0 0, .slice none 0 0, .int .i64 0, .bool false, .bool false] 50)) := sep_get hxa 2 rfl
      go_simp
      refine hK.out _ _ hSa (fun _ => ?_)
      clear hK K
      obtain ⟨x13, hN⟩ : ∃ wx, wx = wd.alloc (Obj.cells #[.slice none 0 0, .slice none 0 0, .int .i64 0, .int .i64 0, .int .i64 0, .slice none 0 0, .slice none 0 0, .int .i64 0, .int .i64 0, .int .i64 0, .slice none 0 0, .slice none 0 0, .slice none 0 0, .int .i64 0, .slice none 0 0, .slice none 0 0, .slice none 0 0, .int .i64 0, .bool false, .bool false] 50) := ⟨_, rfl⟩
      obtain ⟨g, hg⟩ : ∃ g, g = wd.heap.size := ⟨_, rfl⟩
      rw [← hN] at hxa hba hza hSa ⊢
      rw [← hg] at hxa ⊢
      have HS_x13 := hide hxa
      have HB_x13 := hide hba
      have HZ_x13 := hide hza
      have hS_x13 := hSa
      have HG := hide (show w.heap.size ≤ g by rw [hg]; exact HB_wd.out.size)
      clear hxa hba hza hSa hN hg
      refine wpAnyH_ready (rs := [2]) (by kernel_rfl) (by simp) ?_
      refine AllReadyH.cons rfl (fun K hK => ?_) AllReadyH.nil
      refine step_call1 x13 ?_ 43 Tryz.f43 Tryz.func43 ?_ ?_ (.tmp 6) #[40] ?_ (.agg #[vp, vl]) ?_ _ (HCd.out _ x13 (disk_below HD.out HB_x13.out)) ?_
      · exact rfl
      · decide
      · exact Option.some_ne_none _
      · exact rfl
      · exact rfl
      rintro e x14 ⟨v1, rfl, ho, hb⟩
      refine ⟨_, rfl, ?_⟩
      obtain ⟨p1, q1, p2, q2, rfl⟩ := disk_form ho
      have HS_x14 := hide (sep_add HS_x13.out hb (diskA a0 _ s.ps s.ls) (disk_downQ ho HZ_x13.out) (fun j hj => diskOwn_lt ho j hj) HZ_x13.out)
      have HB_x14 : Hid (Below w.heap.size w x14) := hide (HB_x13.out.trans (hb.mono HB_x13.out.size))
      have HZ_x14 : Hid (a0 ≤ x14.heap.size) := hide (Nat.le_trans HZ_x13.out hb.size)
      have hS_x14 : (fun wx => wx.heap[a0]? = some (Obj.cells #[vp, vl, .int .i64 s.m.tx, .int .i64 s.m.root, .int .i64 s.m.next, vf, .slice aR L cR, .int .i64 s.tm.tx, .int .i64 s.tm.root, .int .i64 s.tm.next, vr, up, ul, .int .i64 s.tk.next, uu, ug, uf, .int .i64 s.tr, .bool s.wr, .bool s.fl] 50)) x14 := sep_get HS_x14.out 3 rfl
      refine hK.out (Act.put _ (some 7) _) _ hS_x14 (fun _ => ?_)
      clear hK K hb ho
      simp only [Act.put, List.setIfInBounds_toArray, List.set_cons_zero, List.set_cons_succ]
      refine wpAnyH_ready (rs := [5]) (by kernel_rfl) (by simp) ?_
      refine AllReadyH.cons rfl (fun K hK => ?_) AllReadyH.nil
      refine step_call1 x14 ?_ 18 Tryz.f18 Tryz.func18 ?_ ?_ (.tmp 9) #[43] ?_ (.agg #[.int .i64 s.m.tx, .int .i64 s.m.root, .int .i64 s.m.next, vf]) ?_ _ (HCm.out _ x14 (meta_below HM.out HB_x14.out)) ?_
      · exact rfl
      · decide
      · exact Option.some_ne_none _
      · exact rfl
      · exact rfl
      rintro e x15 ⟨v1, rfl, hm, hb⟩
      refine ⟨_, rfl, ?_⟩
      obtain ⟨xr, l1, ev, ho⟩ := hm
      obtain ⟨p3, q3, rfl⟩ := own_slice ho.1
      subst ev
      have HS_x15 := hide (sep_add HS_x14.out hb (freesA a0 (.slice p3 s.m.fs.length q3) l1 s.m.fs) (ownF_down ho HZ_x14.out) (fun j hj => ownF_lt ho j hj) HZ_x14.out)
      have HB_x15 : Hid (Below w.heap.size w x15) := hide (HB_x14.out.trans (hb.mono HB_x14.out.size))
      have HZ_x15 : Hid (a0 ≤ x15.heap.size) := hide (Nat.le_trans HZ_x14.out hb.size)
      have hS_x15 : (fun wx => wx.heap[a0]? = some (Obj.cells #[vp, vl, .int .i64 s.m.tx, .int .i64 s.m.root, .int .i64 s.m.next, vf, .slice aR L cR, .int .i64 s.tm.tx, .int .i64 s.tm.root, .int .i64 s.tm.next, vr, up, ul, .int .i64 s.tk.next, uu, ug, uf, .int .i64 s.tr, .bool s.wr, .bool s.fl] 50)) x15 := sep_get HS_x15.out 4 rfl
      refine hK.out (Act.put _ (some 10) _) _ hS_x15 (fun _ => ?_)
      clear hK K hb ho
      simp only [Act.put, List.setIfInBounds_toArray, List.set_cons_zero, List.set_cons_succ]
      refine wpAnyH_ready (rs := [8]) (by kernel_rfl) (by simp) ?_
      refine AllReadyH.cons rfl (fun K hK => ?_) AllReadyH.nil
      refine step_call1 x15 ?_ 44 Tryz.f44 Tryz.func44 ?_ ?_ (.tmp 12) #[48] ?_ (.agg #[.int .i64 s.tm.tx, .int .i64 s.tm.root, .int .i64 s.tm.next, vr, up, ul, .int .i64 s.tk.next, uu, ug, uf, .int .i64 s.tr]) ?_ _ (HCt.out _ x15 (txn_below HT.out HB_x15.out)) ?_
      · exact rfl
      · decide
      · exact Option.some_ne_none _
      · exact rfl
      · exact rfl
      rintro e x16 ⟨v1, rfl, hm, hb⟩
      refine ⟨_, rfl, ?_⟩
      obtain ⟨l2, p5, q5, p6, q6, p7, q7, p8, q8, p9, q9, p10, q10, ev, ho⟩ := hm
      subst ev
      have HS_x16 := hide (sep_joinL (l'' := [freesA a0 (.slice p5 s.tm.fs.length q5) l2 s.tm.fs, workA a0 (.agg #[.slice p6 s.tk.ps.length q6, .slice p7 s.tk.ls.length q7, .int .i64 s.tk.next, .slice p8 s.tk.us.length q8, .slice p9 s.tk.gs.length q9, .slice p10 s.tk.fs.length q10]) s.tk]) HS_x15.out hb ho ⟨asIs_frees HZ_x15.out _ _ _, asIs_work HZ_x15.out _ _, trivial⟩ HZ_x15.out)
      have HB_x16 : Hid (Below w.heap.size w x16) := hide (HB_x15.out.trans (hb.mono HB_x15.out.size))
      have HZ_x16 : Hid (a0 ≤ x16.heap.size) := hide (Nat.le_trans HZ_x15.out hb.size)
      have hS_x16 : (fun wx => wx.heap[a0]? = some (Obj.cells #[vp, vl, .int .i64 s.m.tx, .int .i64 s.m.root, .int .i64 s.m.next, vf, .slice aR L cR, .int .i64 s.tm.tx, .int .i64 s.tm.root, .int .i64 s.tm.next, vr, up, ul, .int .i64 s.tk.next, uu, ug, uf, .int .i64 s.tr, .bool s.wr, .bool s.fl] 50)) x16 := sep_get HS_x16.out 6 rfl
      refine hK.out (Act.put _ (some 13) _) _ hS_x16 (fun _ => ?_)
      clear hK K hb ho
      simp only [Act.put, List.setIfInBounds_toArray, List.set_cons_zero, List.set_cons_succ]
      refine takeW 13 18 ?_ rfl rfl (by kernel_rfl) (by kernel_rfl) (by kernel_rfl) (fun _ _ _ h => h) (Or.inl ⟨by rfl, ?_⟩) hS_x16 ?_
      rotate_left
      · (intro wx hSw; (try dsimp only at hSw); go_simp; try with_reducible rfl)
      simp only [List.setIfInBounds_toArray, List.set_cons_zero, List.set_cons_succ]
      refine wpAnyH_ready (rs := [15]) (by kernel_rfl) (by simp) ?_
      refine AllReadyH.cons rfl (fun K hK => ?_) AllReadyH.nil
      obtain ⟨x17, hN⟩ : ∃ wx, wx = x16.setCells g 0 (#[.slice p1 s.ps.length q1, .slice p2 s.ls.length q2, .int .i64 s.m.tx, .int .i64 s.m.root, .int .i64 s.m.next, .slice p3 s.m.fs.length q3, .slice none 0 0, .int .i64 s.tm.tx, .int .i64 s.tm.root, .int .i64 s.tm.next, .slice p5 s.tm.fs.length q5, .slice p6 s.tk.ps.length q6, .slice p7 s.tk.ls.length q7, .int .i64 s.tk.next, .slice p8 s.tk.us.length q8, .slice p9 s.tk.gs.length q9, .slice p10 s.tk.fs.length q10, .int .i64 s.tr, .bool s.wr, .bool s.fl] : Array Value).toList := ⟨_, rfl⟩
      have hs9 := sep_cellsAll HS_x16.out 4 rfl #[.slice p1 s.ps.length q1, .slice p2 s.ls.length q2, .int .i64 s.m.tx, .int .i64 s.m.root, .int .i64 s.m.next, .slice p3 s.m.fs.length q3, .slice none 0 0, .int .i64 s.tm.tx, .int .i64 s.tm.root, .int .i64 s.tm.next, .slice p5 s.tm.fs.length q5, .slice p6 s.tk.ps.length q6, .slice p7 s.tk.ls.length q7, .int .i64 s.tk.next, .slice p8 s.tk.us.length q8, .slice p9 s.tk.gs.length q9, .slice p10 s.tk.fs.length q10, .int .i64 s.tr, .bool s.wr, .bool s.fl] rfl
      have hb9 := below_cells HG.out (#[.slice p1 s.ps.length q1, .slice p2 s.ls.length q2, .int .i64 s.m.tx, .int .i64 s.m.root, .int .i64 s.m.next, .slice p3 s.m.fs.length q3, .slice none 0 0, .int .i64 s.tm.tx, .int .i64 s.tm.root, .int .i64 s.tm.next, .slice p5 s.tm.fs.length q5, .slice p6 s.tk.ps.length q6, .slice p7 s.tk.ls.length q7, .int .i64 s.tk.next, .slice p8 s.tk.us.length q8, .slice p9 s.tk.gs.length q9, .slice p10 s.tk.fs.length q10, .int .i64 s.tr, .bool s.wr, .bool s.fl] : Array Value).toList 0 x16 HB_x16.out
      have hz9 : a0 ≤ x17.heap.size := by rw [hN, size_cells]; exact HZ_x16.out
      rw [← hN] at hs9 hb9
      have HS9 := hide (sep_pick (pre := [_, _, _, _, _, _, _]) (rest := []) hs9 [4, 3, 2, 0, 1, 5, 6] (by decide) [_, _, _, _, _, _, _] rfl)
      have HB9 := hide hb9
      have HZ9 := hide hz9
      have hS9 : (fun wx => wx.heap[a0]? = some (Obj.cells #[vp, vl, .int .i64 s.m.tx, .int .i64 s.m.root, .int .i64 s.m.next, vf, .slice aR L cR, .int .i64 s.tm.tx, .int .i64 s.tm.root, .int .i64 s.tm.next, vr, up, ul, .int .i64 s.tk.next, uu, ug, uf, .int .i64 s.tr, .bool s.wr, .bool s.fl] 50)) x17 := sep_get HS9.out 6 rfl
      have hth : x16.there g 0 (#[.slice p1 s.ps.length q1, .slice p2 s.ls.length q2, .int .i64 s.m.tx, .int .i64 s.m.root, .int .i64 s.m.next, .slice p3 s.m.fs.length q3, .slice none 0 0, .int .i64 s.tm.tx, .int .i64 s.tm.root, .int .i64 s.tm.next, .slice p5 s.tm.fs.length q5, .slice p6 s.tk.ps.length q6, .slice p7 s.tk.ls.length q7, .int .i64 s.tk.next, .slice p8 s.tk.us.length q8, .slice p9 s.tk.gs.length q9, .slice p10 s.tk.fs.length q10, .int .i64 s.tr, .bool s.wr, .bool s.fl] : Array Value).size := there_of (sep_get HS_x16.out 4 rfl : x16.heap[g]? = some (Obj.cells #[.slice none 0 0, .slice none 0 0, .int .i64 0, .int .i64 0, .int .i64 0, .slice none 0 0, .slice none 0 0, .int .i64 0, .int .i64 0, .int .i64 0, .slice none 0 0, .slice none 0 0, .slice none 0 0, .int .i64 0, .slice none 0 0, .slice none 0 0, .slice none 0 0, .int .i64 0, .bool false, .bool false] 50)) 0 20 (show 0 + 20 ≤ 20 by decide)
      refine step_storeL ?_ 50 (.tmp 3) (.tmp 18) ?_ g 0 #[.slice p1 s.ps.length q1, .slice p2 s.ls.length q2, .int .i64 s.m.tx, .int .i64 s.m.root, .int .i64 s.m.next, .slice p3 s.m.fs.length q3, .slice none 0 0, .int .i64 s.tm.tx, .int .i64 s.tm.root, .int .i64 s.tm.next, .slice p5 s.tm.fs.length q5, .slice p6 s.tk.ps.length q6, .slice p7 s.tk.ls.length q7, .int .i64 s.tk.next, .slice p8 s.tk.us.length q8, .slice p9 s.tk.gs.length q9, .slice p10 s.tk.fs.length q10, .int .i64 s.tr, .bool s.wr, .bool s.fl] ?_ ?_ hth ?_ ?_ hN.symm ?_
      · exact rfl
      · exact rfl
      · exact rfl
      · exact rfl
      · exact Tryz.sizeStore
      · exact rfl
      clear hth hs9 hb9 hz9 hN
      refine hK.out _ _ hS9 (fun _ => ?_)
      clear hK K
      refine wpAnyH_done (by kernel_rfl) ?_ _
      go_wp2_with fail
      go_meet
      case rel => exact ⟨g, p1, q1, p2, q2, p3, q3, p5, q5, p6, q6, p7, q7, p8, q8, p9, q9, p10, q10, l1, l2, rfl, HS9, HB9, HZ9⟩
  case rest =>
    obtain ⟨g, p1, q1, p2, q2, p3, q3, p5, q5, p6, q6, p7, q7, p8, q8, p9, q9, p10, q10, l1, l2, rfl, HS1, HB1, HZ1⟩ := hcut
    clear HS0 HB0 HZ0 HCd HCm HCt
    go_wp2_with fail
    go_loopg [4] L (fun q iv wr => ∃ (k : Nat) (xR : Option Addr) (yR : Nat) (us : List (Value × List (Int × Value))), k ≤ L ∧ iv = .int .i64 (k : Int) ∧ q + k = L ∧ Hid (us.length = k) ∧ Hid (Sep a0 wr [cellA g (Obj.cells #[.slice p1 s.ps.length q1, .slice p2 s.ls.length q2, .int .i64 s.m.tx, .int .i64 s.m.root, .int .i64 s.m.next, .slice p3 s.m.fs.length q3, .slice xR k yR, .int .i64 s.tm.tx, .int .i64 s.tm.root, .int .i64 s.tm.next, .slice p5 s.tm.fs.length q5, .slice p6 s.tk.ps.length q6, .slice p7 s.tk.ls.length q7, .int .i64 s.tk.next, .slice p8 s.tk.us.length q8, .slice p9 s.tk.gs.length q9, .slice p10 s.tk.fs.length q10, .int .i64 s.tr, .bool s.wr, .bool s.fl] 50), rowA a0 98 5 (.slice xR k yR) k (rds (s.rs.take k) (us.map Prod.fst)), packA a0 (frL a0 us (s.rs.take k)), diskA a0 (.agg #[.slice p1 s.ps.length q1, .slice p2 s.ls.length q2]) s.ps s.ls, freesA a0 (.slice p3 s.m.fs.length q3) l1 s.m.fs, freesA a0 (.slice p5 s.tm.fs.length q5) l2 s.tm.fs, workA a0 (.agg #[.slice p6 s.tk.ps.length q6, .slice p7 s.tk.ls.length q7, .int .i64 s.tk.next, .slice p8 s.tk.us.length q8, .slice p9 s.tk.gs.length q9, .slice p10 s.tk.fs.length q10]) s.tk, cellA (a0 + 1) (Obj.cells #[.slice none 0 0, .slice none 0 0, .int .i64 0, .int .i64 0, .int .i64 0, .slice none 0 0, .slice none 0 0, .int .i64 0, .int .i64 0, .int .i64 0, .slice none 0 0, .slice none 0 0, .slice none 0 0, .int .i64 0, .slice none 0 0, .slice none 0 0, .slice none 0 0, .int .i64 0, .bool false, .bool false] 50), cellA a0 (Obj.cells #[vp, vl, .int .i64 s.m.tx, .int .i64 s.m.root, .int .i64 s.m.next, vf, .slice aR L cR, .int .i64 s.tm.tx, .int .i64 s.tm.root, .int .i64 s.tm.next, vr, up, ul, .int .i64 s.tk.next, uu, ug, uf, .int .i64 s.tr, .bool s.wr, .bool s.fl] 50)]) ∧ Hid (Below w.heap.size w wr) ∧ Hid (a0 ≤ wr.heap.size))
    case atStart => exact ⟨0, none, 0, [], Nat.zero_le _, rfl, by omega, hide rfl, hide (sep_pick (pre := [_, _, _, _, _, _, _, _, _]) (rest := []) (sep_none5 (sep_pack (l := frL a0 [] (s.rs.take 0)) HS1.out) a0 98) [2, 0, 1, 3, 4, 5, 6, 7, 8] (by decide) [_, _, _, _, _, _, _, _, _] rfl), HB1, HZ1⟩
    case round =>
      obtain ⟨k, xR, yR, us, hk, rfl, hg, HU, HSp, HB, HZ⟩ := hrel
      have HQ := hide hg
      clear hg HS1 HB1 HZ1
      by_cases hlt : k < L
      · obtain ⟨id, m, hm⟩ : ∃ id m, s.rs[k]? = some (id, m) := ⟨_, _, List.getElem?_eq_getElem (by rw [← HL.out]; exact hlt)⟩
        obtain ⟨b, off, uK, rfl, hbl, ⟨c0, c1, c2, c3, c4⟩, hfr⟩ := rds_get HR.out hm
        have hxs := HCr.out _ (List.mem_of_getElem? hm)
        have HC := hide (mcopyS hxs.1 hxs.2)
        obtain ⟨ya, yc, rfl⟩ := frees_slice hfr
        have HMk : Hid (∀ wx, Below w.heap.size w wx → MetaAt wx (.agg #[.int .i64 m.tx, .int .i64 m.root, .int .i64 m.next, .slice ya m.fs.length yc]) m) := hide (fun wx hb => ⟨_, rfl, frees_below hfr hb⟩)
        have HSw : Hid (∀ wx, Below w.heap.size w wx → wx.heap[a0]? = some (Obj.cells #[vp, vl, .int .i64 s.m.tx, .int .i64 s.m.root, .int .i64 s.m.next, vf, .slice (some ⟨b, off, none⟩) L cR, .int .i64 s.tm.tx, .int .i64 s.tm.root, .int .i64 s.tm.next, vr, up, ul, .int .i64 s.tk.next, uu, ug, uf, .int .i64 s.tr, .bool s.wr, .bool s.fl] 50) → (fun wx => wx.heap[a0]? = some (Obj.cells #[vp, vl, .int .i64 s.m.tx, .int .i64 s.m.root, .int .i64 s.m.next, vf, .slice (some ⟨b, off, none⟩) L cR, .int .i64 s.tm.tx, .int .i64 s.tm.root, .int .i64 s.tm.next, vr, up, ul, .int .i64 s.tk.next, uu, ug, uf, .int .i64 s.tr, .bool s.wr, .bool s.fl] 50) ∧ wx.cell? ⟨b, off + k * 5, none⟩ = some (.int .i64 id) ∧ wx.cell? ⟨b, off + k * 5 + 1, none⟩ = some (.int .i64 m.tx) ∧ wx.cell? ⟨b, off + k * 5 + 2, none⟩ = some (.int .i64 m.root) ∧ wx.cell? ⟨b, off + k * 5 + 3, none⟩ = some (.int .i64 m.next) ∧ wx.cell? ⟨b, off + k * 5 + 4, none⟩ = some (.slice ya m.fs.length yc)) wx) := hide (fun wx hb h => ⟨h, by rw [cell_sameS (hb.block b hbl)]; exact c0, by rw [cell_sameS (hb.block b hbl)]; exact c1, by rw [cell_sameS (hb.block b hbl)]; exact c2, by rw [cell_sameS (hb.block b hbl)]; exact c3, by rw [cell_sameS (hb.block b hbl)]; exact c4⟩)
        have HF := hide hm
        have hk0 : (0 : Int) ≤ (k : Int) := by omega
        have hk1 : (k : Int) < (L : Int) := by omega
        have hx6 : wr.cell? ⟨a0, 6, none⟩ = some (.slice (some ⟨b, off, none⟩) L cR) := (cell_at (sep_get HSp.out 8 rfl : wr.heap[a0]? = some (Obj.cells #[vp, vl, .int .i64 s.m.tx, .int .i64 s.m.root, .int .i64 s.m.next, vf, .slice (some ⟨b, off, none⟩) L cR, .int .i64 s.tm.tx, .int .i64 s.tm.root, .int .i64 s.tm.next, vr, up, ul, .int .i64 s.tk.next, uu, ug, uf, .int .i64 s.tr, .bool s.wr, .bool s.fl] 50)) 6).1
        clear hm c0 c1 c2 c3 c4 hfr hxs
        go_upto_region 5 with fail
        clear hx6
        obtain ⟨wd, hwd⟩ : ∃ wd, wd = wr.drew := ⟨_, rfl⟩
        have HS_wd := hide (sep_drew HSp.out)
        have HB_wd := hide HB.out.drew
        have HZ_wd : Hid (a0 ≤ wr.drew.heap.size) := HZ
        rw [← hwd] at HS_wd HB_wd HZ_wd
        have hS_wd := HSw.out wd HB_wd.out (sep_get HS_wd.out 8 rfl)
        refine wp_region_held_drew (S := fun wx => wx.heap[a0]? = some (Obj.cells #[vp, vl, .int .i64 s.m.tx, .int .i64 s.m.root, .int .i64 s.m.next, vf, .slice (some ⟨b, off, none⟩) L cR, .int .i64 s.tm.tx, .int .i64 s.tm.root, .int .i64 s.tm.next, vr, up, ul, .int .i64 s.tk.next, uu, ug, uf, .int .i64 s.tr, .bool s.wr, .bool s.fl] 50) ∧ wx.cell? ⟨b, off + k * 5, none⟩ = some (.int .i64 id) ∧ wx.cell? ⟨b, off + k * 5 + 1, none⟩ = some (.int .i64 m.tx) ∧ wx.cell? ⟨b, off + k * 5 + 2, none⟩ = some (.int .i64 m.root) ∧ wx.cell? ⟨b, off + k * 5 + 3, none⟩ = some (.int .i64 m.next) ∧ wx.cell? ⟨b, off + k * 5 + 4, none⟩ = some (.slice ya m.fs.length yc)) (by kernel_rfl) (by rw [← hwd]; exact hS_wd) (fun _ => ?_)
        rw [← hwd]
        clear hwd
        refine takeW 0 26 ?_ rfl rfl (by kernel_rfl) (by kernel_rfl) (by kernel_rfl) (fun _ _ _ h => h) (Or.inl ⟨by rfl, ?_⟩) hS_wd ?_
        rotate_left
        · (intro wx hSw; (try dsimp only at hSw); go_simp; try with_reducible rfl)
        simp only [List.setIfInBounds_toArray, List.set_cons_zero, List.set_cons_succ]
        refine takeW 2 28 ?_ rfl rfl (by kernel_rfl) (by kernel_rfl) (by kernel_rfl) (fun _ _ _ h => h) (Or.inl ⟨by rfl, ?_⟩) hS_wd ?_
        rotate_left
        · (intro wx hSw; (try dsimp only at hSw); go_simp; try with_reducible rfl)
        simp only [List.setIfInBounds_toArray, List.set_cons_zero, List.set_cons_succ]
        refine takeW 3 29 ?_ rfl rfl (by kernel_rfl) (by kernel_rfl) (by kernel_rfl) (fun _ _ _ h => h) (Or.inl ⟨by rfl, ?_⟩) hS_wd ?_
        rotate_left
        · (intro wx hSw; (try dsimp only at hSw); have hx6 : wx.cell? ⟨a0, 6, none⟩ = some (.slice (some ⟨b, off, none⟩) L cR) := (cell_at hSw.1 6).1; go_simp; try with_reducible rfl)
        simp only [List.setIfInBounds_toArray, List.set_cons_zero, List.set_cons_succ]
        refine takeW 4 30 ?_ rfl rfl (by kernel_rfl) (by kernel_rfl) (by kernel_rfl) (fun _ _ _ h => h) (Or.inl ⟨by rfl, ?_⟩) hS_wd ?_
        rotate_left
        · (intro wx hSw; (try dsimp only at hSw); go_simp; try with_reducible rfl)
        simp only [List.setIfInBounds_toArray, List.set_cons_zero, List.set_cons_succ]
        refine takeW 5 31 ?_ rfl rfl (by kernel_rfl) (by kernel_rfl) (by kernel_rfl) (fun _ _ _ h => h) (Or.inl ⟨by rfl, ?_⟩) hS_wd ?_
        rotate_left
        · (intro wx hSw; (try dsimp only at hSw); go_simp; try with_reducible rfl)
        simp only [List.setIfInBounds_toArray, List.set_cons_zero, List.set_cons_succ]
        refine takeW 6 32 ?_ rfl rfl (by kernel_rfl) (by kernel_rfl) (by kernel_rfl) (fun _ _ _ h => h) (Or.inl ⟨by rfl, ?_⟩) hS_wd ?_
        rotate_left
        · (intro wx hSw; (try dsimp only at hSw); go_simp; try with_reducible rfl)
        simp only [List.setIfInBounds_toArray, List.set_cons_zero, List.set_cons_succ]
        refine takeW 7 33 ?_ rfl rfl (by kernel_rfl) (by kernel_rfl) (by kernel_rfl) (fun _ _ _ h => h) (Or.inl ⟨by rfl, ?_⟩) hS_wd ?_
        rotate_left
        · (intro wx hSw; (try dsimp only at hSw); have hx7 := hSw.2.1; go_simp; try with_reducible rfl)
        simp only [List.setIfInBounds_toArray, List.set_cons_zero, List.set_cons_succ]
        refine takeW 8 34 ?_ rfl rfl (by kernel_rfl) (by kernel_rfl) (by kernel_rfl) (fun _ _ _ h => h) (Or.inl ⟨by rfl, ?_⟩) hS_wd ?_
        rotate_left
        · (intro wx hSw; (try dsimp only at hSw); go_simp; try with_reducible rfl)
        simp only [List.setIfInBounds_toArray, List.set_cons_zero, List.set_cons_succ]
        refine takeW 9 35 ?_ rfl rfl (by kernel_rfl) (by kernel_rfl) (by kernel_rfl) (fun _ _ _ h => h) (Or.inl ⟨by rfl, ?_⟩) hS_wd ?_
        rotate_left
        · (intro wx hSw; (try dsimp only at hSw); have hx6 : wx.cell? ⟨a0, 6, none⟩ = some (.slice (some ⟨b, off, none⟩) L cR) := (cell_at hSw.1 6).1; go_simp; try with_reducible rfl)
        simp only [List.setIfInBounds_toArray, List.set_cons_zero, List.set_cons_succ]
        refine takeW 10 36 ?_ rfl rfl (by kernel_rfl) (by kernel_rfl) (by kernel_rfl) (fun _ _ _ h => h) (Or.inl ⟨by rfl, ?_⟩) hS_wd ?_
        rotate_left
        · (intro wx hSw; (try dsimp only at hSw); go_simp; try with_reducible rfl)
        simp only [List.setIfInBounds_toArray, List.set_cons_zero, List.set_cons_succ]
        refine takeW 11 37 ?_ rfl rfl (by kernel_rfl) (by kernel_rfl) (by kernel_rfl) (fun _ _ _ h => h) (Or.inl ⟨by rfl, ?_⟩) hS_wd ?_
        rotate_left
        · (intro wx hSw; (try dsimp only at hSw); go_simp; try with_reducible rfl)
        simp only [List.setIfInBounds_toArray, List.set_cons_zero, List.set_cons_succ]
        refine takeW 12 38 ?_ rfl rfl (by kernel_rfl) (by kernel_rfl) (by kernel_rfl) (fun _ _ _ h => h) (Or.inl ⟨by rfl, ?_⟩) hS_wd ?_
        rotate_left
        · (intro wx hSw; (try dsimp only at hSw); go_simp; try with_reducible rfl)
        simp only [List.setIfInBounds_toArray, List.set_cons_zero, List.set_cons_succ]
        refine takeW 13 39 (.agg #[.int .i64 m.tx, .int .i64 m.root, .int .i64 m.next, .slice ya m.fs.length yc]) rfl rfl (by kernel_rfl) (by kernel_rfl) (by kernel_rfl) (fun _ _ _ h => h) (yields_loadL (by rfl) 43 (.tmp 38) rfl b (off + k * 5 + 1) rfl #[.int .i64 m.tx, .int .i64 m.root, .int .i64 m.next, .slice ya m.fs.length yc] _ (fun _ h => range4 h.2.2.1 h.2.2.2.1 h.2.2.2.2.1 h.2.2.2.2.2) Tryz.underlying43 rfl Tryz.sizeMetaS) hS_wd ?_
        simp only [List.setIfInBounds_toArray, List.set_cons_zero, List.set_cons_succ]
        refine wpAnyH_ready (rs := [1, 14]) (by kernel_rfl) (by simp) ?_
        refine ready2 rfl rfl ?_
        apply branch4 (fun (p : Option Addr) (q : Nat) (l : List (Int × Value)) (W : World) => Sep a0 W (freesA a0 (.slice p m.fs.length q) l m.fs :: [cellA g (Obj.cells #[.slice p1 s.ps.length q1, .slice p2 s.ls.length q2, .int .i64 s.m.tx, .int .i64 s.m.root, .int .i64 s.m.next, .slice p3 s.m.fs.length q3, .slice xR k yR, .int .i64 s.tm.tx, .int .i64 s.tm.root, .int .i64 s.tm.next, .slice p5 s.tm.fs.length q5, .slice p6 s.tk.ps.length q6, .slice p7 s.tk.ls.length q7, .int .i64 s.tk.next, .slice p8 s.tk.us.length q8, .slice p9 s.tk.gs.length q9, .slice p10 s.tk.fs.length q10, .int .i64 s.tr, .bool s.wr, .bool s.fl] 50), rowA a0 98 5 (.slice xR k yR) k (rds (s.rs.take k) (us.map Prod.fst)), packA a0 (frL a0 us (s.rs.take k)), diskA a0 (.agg #[.slice p1 s.ps.length q1, .slice p2 s.ls.length q2]) s.ps s.ls, freesA a0 (.slice p3 s.m.fs.length q3) l1 s.m.fs, freesA a0 (.slice p5 s.tm.fs.length q5) l2 s.tm.fs, workA a0 (.agg #[.slice p6 s.tk.ps.length q6, .slice p7 s.tk.ls.length q7, .int .i64 s.tk.next, .slice p8 s.tk.us.length q8, .slice p9 s.tk.gs.length q9, .slice p10 s.tk.fs.length q10]) s.tk, cellA (a0 + 1) (Obj.cells #[.slice none 0 0, .slice none 0 0, .int .i64 0, .int .i64 0, .int .i64 0, .slice none 0 0, .slice none 0 0, .int .i64 0, .int .i64 0, .int .i64 0, .slice none 0 0, .slice none 0 0, .slice none 0 0, .int .i64 0, .slice none 0 0, .slice none 0 0, .slice none 0 0, .int .i64 0, .bool false, .bool false] 50), cellA a0 (Obj.cells #[vp, vl, .int .i64 s.m.tx, .int .i64 s.m.root, .int .i64 s.m.next, vf, .slice (some ⟨b, off, none⟩) L cR, .int .i64 s.tm.tx, .int .i64 s.tm.root, .int .i64 s.tm.next, vr, up, ul, .int .i64 s.tk.next, uu, ug, uf, .int .i64 s.tr, .bool s.wr, .bool s.fl] 50)]) ∧ Below w.heap.size w W ∧ a0 ≤ W.heap.size ∧ (fun wx => wx.heap[a0]? = some (Obj.cells #[vp, vl, .int .i64 s.m.tx, .int .i64 s.m.root, .int .i64 s.m.next, vf, .slice (some ⟨b, off, none⟩) L cR, .int .i64 s.tm.tx, .int .i64 s.tm.root, .int .i64 s.tm.next, vr, up, ul, .int .i64 s.tk.next, uu, ug, uf, .int .i64 s.tr, .bool s.wr, .bool s.fl] 50) ∧ wx.cell? ⟨b, off + k * 5, none⟩ = some (.int .i64 id) ∧ wx.cell? ⟨b, off + k * 5 + 1, none⟩ = some (.int .i64 m.tx) ∧ wx.cell? ⟨b, off + k * 5 + 2, none⟩ = some (.int .i64 m.root) ∧ wx.cell? ⟨b, off + k * 5 + 3, none⟩ = some (.int .i64 m.next) ∧ wx.cell? ⟨b, off + k * 5 + 4, none⟩ = some (.slice ya m.fs.length yc)) (W.alloc (Obj.cells #[.int .i64 id, .int .i64 m.tx, .int .i64 m.root, .int .i64 m.next, .slice p m.fs.length q] 98)))
        · intro hG K hK
          have m0 : wd.cell? ⟨g, 6, none⟩ = some (.slice xR k yR) := (cell_at (sep_get HS_wd.out 0 rfl : wd.heap[g]? = some (Obj.cells #[.slice p1 s.ps.length q1, .slice p2 s.ls.length q2, .int .i64 s.m.tx, .int .i64 s.m.root, .int .i64 s.m.next, .slice p3 s.m.fs.length q3, .slice xR k yR, .int .i64 s.tm.tx, .int .i64 s.tm.root, .int .i64 s.tm.next, .slice p5 s.tm.fs.length q5, .slice p6 s.tk.ps.length q6, .slice p7 s.tk.ls.length q7, .int .i64 s.tk.next, .slice p8 s.tk.us.length q8, .slice p9 s.tk.gs.length q9, .slice p10 s.tk.fs.length q10, .int .i64 s.tr, .bool s.wr, .bool s.fl] 50)) 6).1
          go_simp
          refine hK.out _ _ hS_wd (fun _ => ?_)
          clear hK K m0
          refine wpAnyH_ready (rs := [14]) (by kernel_rfl) (by simp) ?_
          refine AllReadyH.cons rfl (fun K hK => ?_) AllReadyH.nil
          refine step_call1 wd ?_ 18 Tryz.f18 Tryz.func18 ?_ ?_ (.tmp 39) #[43] ?_ (.agg #[.int .i64 m.tx, .int .i64 m.root, .int .i64 m.next, .slice ya m.fs.length yc]) ?_ _ (HC.out _ wd (HMk.out _ HB_wd.out)) ?_
          · exact rfl
          · decide
          · exact Option.some_ne_none _
          · exact rfl
          · exact rfl
          rintro e y1 ⟨v1, rfl, hm1, hb⟩
          refine ⟨_, rfl, ?_⟩
          obtain ⟨xr, l, ev, ho⟩ := hm1
          obtain ⟨p, q, rfl⟩ := own_slice ho.1
          subst ev
          have HS_y1 := hide (sep_add HS_wd.out hb (freesA a0 (.slice p m.fs.length q) l m.fs) (ownF_down ho HZ_wd.out) (fun j hj => ownF_lt ho j hj) HZ_wd.out)
          have HB_y1 : Hid (Below w.heap.size w y1) := hide (HB_wd.out.trans (hb.mono HB_wd.out.size))
          have HZ_y1 : Hid (a0 ≤ y1.heap.size) := hide (Nat.le_trans HZ_wd.out hb.size)
          have hS_y1 := HSw.out y1 HB_y1.out (sep_get HS_y1.out 9 rfl)
          have hSA := HSw.out (y1.alloc (Obj.cells #[.int .i64 id, .int .i64 m.tx, .int .i64 m.root, .int .i64 m.next, .slice p m.fs.length q] 98)) (HB_y1.out.alloc HB_y1.out.size _) (sep_get (sep_alloc HS_y1.out _) 9 rfl)
          refine hK.out (Act.put _ (some 40) _) _ hS_y1 (fun _ => ?_)
          clear hK K hb ho
          simp only [Act.put, List.setIfInBounds_toArray, List.set_cons_zero, List.set_cons_succ]
          refine takeW 15 41 ?_ rfl rfl (by kernel_rfl) (by kernel_rfl) (by kernel_rfl) (fun _ _ _ h => h) (Or.inl ⟨by rfl, ?_⟩) hS_y1 ?_
          rotate_left
          · (intro wx hSw; (try dsimp only at hSw); go_simp; try with_reducible rfl)
          simp only [List.setIfInBounds_toArray, List.set_cons_zero, List.set_cons_succ]
          refine wpAnyH_ready (rs := [16]) (by kernel_rfl) (by simp) ?_
          refine AllReadyH.cons rfl (fun K hK => ?_) AllReadyH.nil
          go_simp
          refine hK.out _ _ hSA (fun _ => ?_)
          clear hK K
          exact hG p q l y1 ⟨HS_y1.out, HB_y1.out, HZ_y1.out, hSA⟩
        · intro hG K hK
          refine step_call1 wd ?_ 18 Tryz.f18 Tryz.func18 ?_ ?_ (.tmp 39) #[43] ?_ (.agg #[.int .i64 m.tx, .int .i64 m.root, .int .i64 m.next, .slice ya m.fs.length yc]) ?_ _ (HC.out _ wd (HMk.out _ HB_wd.out)) ?_
          · exact rfl
          · decide
          · exact Option.some_ne_none _
          · exact rfl
          · exact rfl
          rintro e y1 ⟨v1, rfl, hm1, hb⟩
          refine ⟨_, rfl, ?_⟩
          obtain ⟨xr, l, ev, ho⟩ := hm1
          obtain ⟨p, q, rfl⟩ := own_slice ho.1
          subst ev
          have HS_y1 := hide (sep_add HS_wd.out hb (freesA a0 (.slice p m.fs.length q) l m.fs) (ownF_down ho HZ_wd.out) (fun j hj => ownF_lt ho j hj) HZ_wd.out)
          have HB_y1 : Hid (Below w.heap.size w y1) := hide (HB_wd.out.trans (hb.mono HB_wd.out.size))
          have HZ_y1 : Hid (a0 ≤ y1.heap.size) := hide (Nat.le_trans HZ_wd.out hb.size)
          have hS_y1 := HSw.out y1 HB_y1.out (sep_get HS_y1.out 9 rfl)
          have hSA := HSw.out (y1.alloc (Obj.cells #[.int .i64 id, .int .i64 m.tx, .int .i64 m.root, .int .i64 m.next, .slice p m.fs.length q] 98)) (HB_y1.out.alloc HB_y1.out.size _) (sep_get (sep_alloc HS_y1.out _) 9 rfl)
          refine hK.out (Act.put _ (some 40) _) _ hS_y1 (fun _ => ?_)
          clear hK K hb ho
          simp only [Act.put, List.setIfInBounds_toArray, List.set_cons_zero, List.set_cons_succ]
          refine takeW 15 41 ?_ rfl rfl (by kernel_rfl) (by kernel_rfl) (by kernel_rfl) (fun _ _ _ h => h) (Or.inl ⟨by rfl, ?_⟩) hS_y1 ?_
          rotate_left
          · (intro wx hSw; (try dsimp only at hSw); go_simp; try with_reducible rfl)
          simp only [List.setIfInBounds_toArray, List.set_cons_zero, List.set_cons_succ]
          refine wpAnyH_ready (rs := [1, 16]) (by kernel_rfl) (by simp) ?_
          refine ready2 rfl rfl ⟨?_, ?_⟩
          · intro K hK
            have m0 : y1.cell? ⟨g, 6, none⟩ = some (.slice xR k yR) := (cell_at (sep_get HS_y1.out 1 rfl : y1.heap[g]? = some (Obj.cells #[.slice p1 s.ps.length q1, .slice p2 s.ls.length q2, .int .i64 s.m.tx, .int .i64 s.m.root, .int .i64 s.m.next, .slice p3 s.m.fs.length q3, .slice xR k yR, .int .i64 s.tm.tx, .int .i64 s.tm.root, .int .i64 s.tm.next, .slice p5 s.tm.fs.length q5, .slice p6 s.tk.ps.length q6, .slice p7 s.tk.ls.length q7, .int .i64 s.tk.next, .slice p8 s.tk.us.length q8, .slice p9 s.tk.gs.length q9, .slice p10 s.tk.fs.length q10, .int .i64 s.tr, .bool s.wr, .bool s.fl] 50)) 6).1
            go_simp
            refine hK.out _ _ hS_y1 (fun _ => ?_)
            clear hK K m0
            refine wpAnyH_ready (rs := [16]) (by kernel_rfl) (by simp) ?_
            refine AllReadyH.cons rfl (fun K hK => ?_) AllReadyH.nil
            go_simp
            refine hK.out _ _ hSA (fun _ => ?_)
            clear hK K
            exact hG p q l y1 ⟨HS_y1.out, HB_y1.out, HZ_y1.out, hSA⟩
          · intro K hK
            go_simp
            refine hK.out _ _ hSA (fun _ => ?_)
            clear hK K
            refine wpAnyH_ready (rs := [1]) (by kernel_rfl) (by simp) ?_
            refine AllReadyH.cons rfl (fun K hK => ?_) AllReadyH.nil
            have m0 : (y1.alloc (Obj.cells #[.int .i64 id, .int .i64 m.tx, .int .i64 m.root, .int .i64 m.next, .slice p m.fs.length q] 98)).cell? ⟨g, 6, none⟩ = some (.slice xR k yR) := (cell_at (sep_get (sep_alloc HS_y1.out _) 1 rfl : (y1.alloc (Obj.cells #[.int .i64 id, .int .i64 m.tx, .int .i64 m.root, .int .i64 m.next, .slice p m.fs.length q] 98)).heap[g]? = some (Obj.cells #[.slice p1 s.ps.length q1, .slice p2 s.ls.length q2, .int .i64 s.m.tx, .int .i64 s.m.root, .int .i64 s.m.next, .slice p3 s.m.fs.length q3, .slice xR k yR, .int .i64 s.tm.tx, .int .i64 s.tm.root, .int .i64 s.tm.next, .slice p5 s.tm.fs.length q5, .slice p6 s.tk.ps.length q6, .slice p7 s.tk.ls.length q7, .int .i64 s.tk.next, .slice p8 s.tk.us.length q8, .slice p9 s.tk.gs.length q9, .slice p10 s.tk.fs.length q10, .int .i64 s.tr, .bool s.wr, .bool s.fl] 50)) 6).1
            go_simp
            refine hK.out _ _ hSA (fun _ => ?_)
            clear hK K m0
            exact hG p q l y1 ⟨HS_y1.out, HB_y1.out, HZ_y1.out, hSA⟩
        intro p q l W hP
        obtain ⟨h1, h2, h3, -⟩ := hP
        have HSW := hide h1
        have HBW := hide h2
        have HZW := hide h3
        clear h1 h2 h3
        refine wpAnyH_ready (rs := [17]) (by kernel_rfl) (by simp) ?_
        refine AllReadyH.cons rfl (fun K hK => ?_) AllReadyH.nil
        refine step_rd1 HSW.out 2 rfl (Nat.le_refl a0) HZW.out HZW.out rfl (.tmp 27) (.tmp 42) rfl rfl id m.tx m.root m.next (.slice p m.fs.length q) rfl rfl rfl (by omega) ?_
        intro b9 c9 W9 hs9 hb9
        have HS9 := hide hs9
        have HB9 : Hid (Below w.heap.size w W9) := hide (HBW.out.trans (by rw [← HA.out]; exact hb9))
        have HZ9 : Hid (a0 ≤ W9.heap.size) := hide (Nat.le_trans HZW.out hb9.size)
        have hS9 := HSw.out W9 HB9.out (sep_get hs9 9 rfl)
        clear hs9 hb9
        refine hK.out (Act.put _ (some 43) _) _ hS9 (fun _ => ?_)
        clear hK K
        simp only [Act.put, List.setIfInBounds_toArray, List.set_cons_zero, List.set_cons_succ]
        refine takeW 18 44 ?_ rfl rfl (by kernel_rfl) (by kernel_rfl) (by kernel_rfl) (fun _ _ _ h => h) (Or.inl ⟨by rfl, ?_⟩) hS9 ?_
        rotate_left
        · (intro wx hSw; (try dsimp only at hSw); go_simp; try with_reducible rfl)
        simp only [List.setIfInBounds_toArray, List.set_cons_zero, List.set_cons_succ]
        refine wpAnyH_ready (rs := [19]) (by kernel_rfl) (by simp) ?_
        refine AllReadyH.cons rfl (fun K hK => ?_) AllReadyH.nil
        have y6 : W9.cell? ⟨g, 6, none⟩ = some (.slice xR k yR) := (cell_at (sep_get HS9.out 1 rfl : W9.heap[g]? = some (Obj.cells #[.slice p1 s.ps.length q1, .slice p2 s.ls.length q2, .int .i64 s.m.tx, .int .i64 s.m.root, .int .i64 s.m.next, .slice p3 s.m.fs.length q3, .slice xR k yR, .int .i64 s.tm.tx, .int .i64 s.tm.root, .int .i64 s.tm.next, .slice p5 s.tm.fs.length q5, .slice p6 s.tk.ps.length q6, .slice p7 s.tk.ls.length q7, .int .i64 s.tk.next, .slice p8 s.tk.us.length q8, .slice p9 s.tk.gs.length q9, .slice p10 s.tk.fs.length q10, .int .i64 s.tr, .bool s.wr, .bool s.fl] 50)) 6).1
        have z6 : W9.frozen? ⟨g, 6, none⟩ = false := (cell_at (sep_get HS9.out 1 rfl : W9.heap[g]? = some (Obj.cells #[.slice p1 s.ps.length q1, .slice p2 s.ls.length q2, .int .i64 s.m.tx, .int .i64 s.m.root, .int .i64 s.m.next, .slice p3 s.m.fs.length q3, .slice xR k yR, .int .i64 s.tm.tx, .int .i64 s.tm.root, .int .i64 s.tm.next, .slice p5 s.tm.fs.length q5, .slice p6 s.tk.ps.length q6, .slice p7 s.tk.ls.length q7, .int .i64 s.tk.next, .slice p8 s.tk.us.length q8, .slice p9 s.tk.gs.length q9, .slice p10 s.tk.fs.length q10, .int .i64 s.tr, .bool s.wr, .bool s.fl] 50)) 6).2
        have hsF := sep_store HS9.out 1 rfl 6 (.slice (some ⟨b9, 0, none⟩) (k + 1) c9)
        have hgw : w.heap.size ≤ g := by rw [← HA.out]; exact (sep_lt HS9.out 1 rfl g rfl).1
        have hbF := HB9.out.setCell (p := ⟨g, 6, none⟩) hgw (.slice (some ⟨b9, 0, none⟩) (k + 1) c9)
        have hSF := HSw.out (W9.setCell ⟨g, 6, none⟩ (.slice (some ⟨b9, 0, none⟩) (k + 1) c9)) hbF (sep_get hsF 9 rfl)
        have HZF : Hid (a0 ≤ (W9.setCell ⟨g, 6, none⟩ (.slice (some ⟨b9, 0, none⟩) (k + 1) c9)).heap.size) := hide (by have := HZ9.out; simp; omega)
        have HSF : Hid (Sep a0 (W9.setCell ⟨g, 6, none⟩ (.slice (some ⟨b9, 0, none⟩) (k + 1) c9)) [cellA g (Obj.cells #[.slice p1 s.ps.length q1, .slice p2 s.ls.length q2, .int .i64 s.m.tx, .int .i64 s.m.root, .int .i64 s.m.next, .slice p3 s.m.fs.length q3, .slice (some ⟨b9, 0, none⟩) (k + 1) c9, .int .i64 s.tm.tx, .int .i64 s.tm.root, .int .i64 s.tm.next, .slice p5 s.tm.fs.length q5, .slice p6 s.tk.ps.length q6, .slice p7 s.tk.ls.length q7, .int .i64 s.tk.next, .slice p8 s.tk.us.length q8, .slice p9 s.tk.gs.length q9, .slice p10 s.tk.fs.length q10, .int .i64 s.tr, .bool s.wr, .bool s.fl] 50), rowA a0 98 5 (.slice (some ⟨b9, 0, none⟩) (k + 1) c9) (k + 1) (rds (s.rs.take (k + 1)) ((us ++ [(Value.slice p m.fs.length q, l)]).map Prod.fst)), packA a0 (frL a0 (us ++ [(Value.slice p m.fs.length q, l)]) (s.rs.take (k + 1))), diskA a0 (.agg #[.slice p1 s.ps.length q1, .slice p2 s.ls.length q2]) s.ps s.ls, freesA a0 (.slice p3 s.m.fs.length q3) l1 s.m.fs, freesA a0 (.slice p5 s.tm.fs.length q5) l2 s.tm.fs, workA a0 (.agg #[.slice p6 s.tk.ps.length q6, .slice p7 s.tk.ls.length q7, .int .i64 s.tk.next, .slice p8 s.tk.us.length q8, .slice p9 s.tk.gs.length q9, .slice p10 s.tk.fs.length q10]) s.tk, cellA (a0 + 1) (Obj.cells #[.slice none 0 0, .slice none 0 0, .int .i64 0, .int .i64 0, .int .i64 0, .slice none 0 0, .slice none 0 0, .int .i64 0, .int .i64 0, .int .i64 0, .slice none 0 0, .slice none 0 0, .slice none 0 0, .int .i64 0, .slice none 0 0, .slice none 0 0, .slice none 0 0, .int .i64 0, .bool false, .bool false] 50), cellA a0 (Obj.cells #[vp, vl, .int .i64 s.m.tx, .int .i64 s.m.root, .int .i64 s.m.next, vf, .slice (some ⟨b, off, none⟩) L cR, .int .i64 s.tm.tx, .int .i64 s.tm.root, .int .i64 s.tm.next, vr, up, ul, .int .i64 s.tk.next, uu, ug, uf, .int .i64 s.tr, .bool s.wr, .bool s.fl] 50)]) := hide (by
          have hlk : (s.rs.take k).length = k := by rw [List.length_take, ← HL.out]; omega
          have h5 := sep_pick (pre := [_, _, _, _, _, _, _, _, _, _]) (rest := []) hsF [3, 0, 1, 2, 4, 5, 6, 7, 8, 9] (by decide) [_, _, _, _, _, _, _, _, _, _] rfl
          have h7 := sep_snocP (l := frL a0 us (s.rs.take k)) (sep_unpack h5)
          rw [take_nextS s.rs k _ HF.out, List.map_append, List.map_singleton, rds_snoc _ _ _ _ (by rw [List.length_map, HU.out, hlk]), frL_snoc a0 us (s.rs.take k) _ _ (by rw [HU.out, hlk])]
          exact sep_pick (pre := [_, _, _, _, _, _, _, _, _]) (rest := []) h7 [1, 2, 0, 3, 4, 5, 6, 7, 8] (by decide) [_, _, _, _, _, _, _, _, _] rfl)
        have HBF := hide hbF
        clear hsF hbF hgw
        go_simp
        refine hK.out _ _ hSF (fun _ => ?_)
        clear hK K
        refine wpAnyH_done (by kernel_rfl) ?_ _
        clear hSF hS9 hS_wd y6 z6
        go_wp2_with fail
        go_roundg (gk - 1)
        case measure => have := HQ.out; omega
        case rel => exact ⟨k + 1, some ⟨b9, 0, none⟩, c9, us ++ [(Value.slice p m.fs.length q, l)], by omega, by go_num, by have := HQ.out; omega, hide (by simp [HU.out]), HSF, HBF, HZF⟩
      · obtain rfl : k = L := by omega
        have HRg : Hid (wr.rangeAt g 0 (#[.slice p1 s.ps.length q1, .slice p2 s.ls.length q2, .int .i64 s.m.tx, .int .i64 s.m.root, .int .i64 s.m.next, .slice p3 s.m.fs.length q3, .slice xR k yR, .int .i64 s.tm.tx, .int .i64 s.tm.root, .int .i64 s.tm.next, .slice p5 s.tm.fs.length q5, .slice p6 s.tk.ps.length q6, .slice p7 s.tk.ls.length q7, .int .i64 s.tk.next, .slice p8 s.tk.us.length q8, .slice p9 s.tk.gs.length q9, .slice p10 s.tk.fs.length q10, .int .i64 s.tr, .bool s.wr, .bool s.fl] : Array Value).toList) := hide (range_all (sep_get HSp.out 0 rfl))
        have HTh : Hid (wr.there (a0 + 1) 0 (#[.slice p1 s.ps.length q1, .slice p2 s.ls.length q2, .int .i64 s.m.tx, .int .i64 s.m.root, .int .i64 s.m.next, .slice p3 s.m.fs.length q3, .slice xR k yR, .int .i64 s.tm.tx, .int .i64 s.tm.root, .int .i64 s.tm.next, .slice p5 s.tm.fs.length q5, .slice p6 s.tk.ps.length q6, .slice p7 s.tk.ls.length q7, .int .i64 s.tk.next, .slice p8 s.tk.us.length q8, .slice p9 s.tk.gs.length q9, .slice p10 s.tk.fs.length q10, .int .i64 s.tr, .bool s.wr, .bool s.fl] : Array Value).size) := hide (there_of (sep_get HSp.out 7 rfl : wr.heap[a0 + 1]? = some (Obj.cells #[.slice none 0 0, .slice none 0 0, .int .i64 0, .int .i64 0, .int .i64 0, .slice none 0 0, .slice none 0 0, .int .i64 0, .int .i64 0, .int .i64 0, .slice none 0 0, .slice none 0 0, .slice none 0 0, .int .i64 0, .slice none 0 0, .slice none 0 0, .slice none 0 0, .int .i64 0, .bool false, .bool false] 50)) 0 20 (show 0 + 20 ≤ 20 by decide))
        have hx6 : wr.cell? ⟨a0, 6, none⟩ = some (.slice aR k cR) := (cell_at (sep_get HSp.out 8 rfl : wr.heap[a0]? = some (Obj.cells #[vp, vl, .int .i64 s.m.tx, .int .i64 s.m.root, .int .i64 s.m.next, vf, .slice aR k cR, .int .i64 s.tm.tx, .int .i64 s.tm.root, .int .i64 s.tm.next, vr, up, ul, .int .i64 s.tk.next, uu, ug, uf, .int .i64 s.tr, .bool s.wr, .bool s.fl] 50)) 6).1
        obtain ⟨wf, hwf⟩ : ∃ wf, wf = wr.setCells (a0 + 1) 0 (#[.slice p1 s.ps.length q1, .slice p2 s.ls.length q2, .int .i64 s.m.tx, .int .i64 s.m.root, .int .i64 s.m.next, .slice p3 s.m.fs.length q3, .slice xR k yR, .int .i64 s.tm.tx, .int .i64 s.tm.root, .int .i64 s.tm.next, .slice p5 s.tm.fs.length q5, .slice p6 s.tk.ps.length q6, .slice p7 s.tk.ls.length q7, .int .i64 s.tk.next, .slice p8 s.tk.us.length q8, .slice p9 s.tk.gs.length q9, .slice p10 s.tk.fs.length q10, .int .i64 s.tr, .bool s.wr, .bool s.fl] : Array Value).toList := ⟨_, rfl⟩
        have HSf := sep_cellsAll HSp.out 7 rfl #[.slice p1 s.ps.length q1, .slice p2 s.ls.length q2, .int .i64 s.m.tx, .int .i64 s.m.root, .int .i64 s.m.next, .slice p3 s.m.fs.length q3, .slice xR k yR, .int .i64 s.tm.tx, .int .i64 s.tm.root, .int .i64 s.tm.next, .slice p5 s.tm.fs.length q5, .slice p6 s.tk.ps.length q6, .slice p7 s.tk.ls.length q7, .int .i64 s.tk.next, .slice p8 s.tk.us.length q8, .slice p9 s.tk.gs.length q9, .slice p10 s.tk.fs.length q10, .int .i64 s.tr, .bool s.wr, .bool s.fl] rfl
        have HBf := below_cells (show w.heap.size ≤ a0 + 1 by have := HA.out; omega) (#[.slice p1 s.ps.length q1, .slice p2 s.ls.length q2, .int .i64 s.m.tx, .int .i64 s.m.root, .int .i64 s.m.next, .slice p3 s.m.fs.length q3, .slice xR k yR, .int .i64 s.tm.tx, .int .i64 s.tm.root, .int .i64 s.tm.next, .slice p5 s.tm.fs.length q5, .slice p6 s.tk.ps.length q6, .slice p7 s.tk.ls.length q7, .int .i64 s.tk.next, .slice p8 s.tk.us.length q8, .slice p9 s.tk.gs.length q9, .slice p10 s.tk.fs.length q10, .int .i64 s.tr, .bool s.wr, .bool s.fl] : Array Value).toList 0 wr HB.out
        rw [← hwf] at HSf HBf
        have HWf := hide hwf.symm
        have HSf := hide HSf
        have HBf := hide HBf
        clear hwf
        go_upto_region 6 with fail
        clear hx6
        go_wp2_with (first | ((with_reducible refine wpList_loadL ?_ 50 (.tmp 3) ?_ g 0 ?_ #[.slice p1 s.ps.length q1, .slice p2 s.ls.length q2, .int .i64 s.m.tx, .int .i64 s.m.root, .int .i64 s.m.next, .slice p3 s.m.fs.length q3, .slice xR k yR, .int .i64 s.tm.tx, .int .i64 s.tm.root, .int .i64 s.tm.next, .slice p5 s.tm.fs.length q5, .slice p6 s.tk.ps.length q6, .slice p7 s.tk.ls.length q7, .int .i64 s.tk.next, .slice p8 s.tk.us.length q8, .slice p9 s.tk.gs.length q9, .slice p10 s.tk.fs.length q10, .int .i64 s.tr, .bool s.wr, .bool s.fl] HRg.out _ Tryz.underlying50 ?_ ?_ ?_); exact rfl; exact rfl; exact rfl; exact rfl; exact Tryz.sizeStore) | ((with_reducible refine wpList_storeL ?_ 50 (.tmp 2) (.tmp 45) ?_ (a0 + 1) 0 #[.slice p1 s.ps.length q1, .slice p2 s.ls.length q2, .int .i64 s.m.tx, .int .i64 s.m.root, .int .i64 s.m.next, .slice p3 s.m.fs.length q3, .slice xR k yR, .int .i64 s.tm.tx, .int .i64 s.tm.root, .int .i64 s.tm.next, .slice p5 s.tm.fs.length q5, .slice p6 s.tk.ps.length q6, .slice p7 s.tk.ls.length q7, .int .i64 s.tk.next, .slice p8 s.tk.us.length q8, .slice p9 s.tk.gs.length q9, .slice p10 s.tk.fs.length q10, .int .i64 s.tr, .bool s.wr, .bool s.fl] ?_ ?_ HTh.out ?_ ?_ HWf.out ?_); exact rfl; exact rfl; exact rfl; exact rfl; exact Tryz.sizeStore; exact rfl))
        have HRf : Hid (wf.rangeAt (a0 + 1) 0 (#[.slice p1 s.ps.length q1, .slice p2 s.ls.length q2, .int .i64 s.m.tx, .int .i64 s.m.root, .int .i64 s.m.next, .slice p3 s.m.fs.length q3, .slice xR k yR, .int .i64 s.tm.tx, .int .i64 s.tm.root, .int .i64 s.tm.next, .slice p5 s.tm.fs.length q5, .slice p6 s.tk.ps.length q6, .slice p7 s.tk.ls.length q7, .int .i64 s.tk.next, .slice p8 s.tk.us.length q8, .slice p9 s.tk.gs.length q9, .slice p10 s.tk.fs.length q10, .int .i64 s.tr, .bool s.wr, .bool s.fl] : Array Value).toList) := hide (range_all (sep_get HSf.out 7 rfl))
        refine bodyPost_ret (v := .agg #[.slice p1 s.ps.length q1, .slice p2 s.ls.length q2, .int .i64 s.m.tx, .int .i64 s.m.root, .int .i64 s.m.next, .slice p3 s.m.fs.length q3, .slice xR k yR, .int .i64 s.tm.tx, .int .i64 s.tm.root, .int .i64 s.tm.next, .slice p5 s.tm.fs.length q5, .slice p6 s.tk.ps.length q6, .slice p7 s.tk.ls.length q7, .int .i64 s.tk.next, .slice p8 s.tk.us.length q8, .slice p9 s.tk.gs.length q9, .slice p10 s.tk.fs.length q10, .int .i64 s.tr, .bool s.wr, .bool s.fl]) (results_c Tryz.results15 rfl (run_agg HRf.out Tryz.underlying50 rfl Tryz.sizeStore)) rfl ⟨_, rfl, ?_, HBf.out⟩
        have h := sep_pick (pre := [_, _, _, _, _, _, _, _, _]) (rest := []) HSf.out [2, 1, 3, 4, 5, 6] (by decide) [_, _, _, _, _, _] rfl
        rw [List.take_of_length_le (by rw [← HL.out]; exact Nat.le_refl _)] at h
        have h2 := sep_perm (sep_unpack h) (l' := (rowA a0 98 5 (.slice xR k yR) k (rds s.rs (us.map Prod.fst)) :: frL a0 us s.rs) ++ [diskA a0 (.agg #[.slice p1 s.ps.length q1, .slice p2 s.ls.length q2]) s.ps s.ls, freesA a0 (.slice p3 s.m.fs.length q3) l1 s.m.fs, freesA a0 (.slice p5 s.tm.fs.length q5) l2 s.tm.fs, workA a0 (.agg #[.slice p6 s.tk.ps.length q6, .slice p7 s.tk.ls.length q7, .int .i64 s.tk.next, .slice p8 s.tk.us.length q8, .slice p9 s.tk.gs.length q9, .slice p10 s.tk.fs.length q10]) s.tk]) (by
          refine List.perm_middle.trans ?_
          rfl)
        have h3 := sep_pick (pre := [_, _, _, _, _]) (rest := []) (sep_pack h2) [1, 2, 0, 3, 4] (by decide) [_, _, _, _, _] rfl
        rw [HL.out, HA.out] at h3
        rw [HL.out]
        exact ⟨p1, q1, p2, q2, p3, q3, xR, yR, p5, q5, p6, q6, p7, q7, p8, q8, p9, q9, p10, q10, l1, l2, us, by rw [HU.out, HL.out], rfl, h3⟩
end Go.Proofs.YtghjbfdbheokcaaGreat
