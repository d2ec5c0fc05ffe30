/-
  Facts and contracts that the law's own text rests on, by their texts' names: AllRange, AllLaw, WorldPt.
-/
import Derived.Sort.LoopGhostIn
import Derived.Test.YtdbpbhemnnffeaaGreatDoorXw27
import Derived.Test.YtdbpbhemnnffeaaGreatDoorXw29
import Derived.Deep.RegionHeld3
import Derived.Test.YtdbpbhemnnffeaaGreatDoorXw7
import Derived.Test.YtdbpbhemnnffeaaGreatDoorXw5
import Derived.Test.YtdbpbhemnnffeaaGreatDoorXw15
namespace Go.Proofs.YtdbpbhemnnffeaaGreatDoor
open Go.RowKit Go.Shelf
attribute [local go_sem] Oper.semAt_some
theorem alloc_get (W : World) (o : Obj) (k : Nat) : (W.alloc o).heap[k]? = if k = W.heap.size then some o else W.heap[k]? := by
  by_cases h : k = W.heap.size
  · rw [if_pos h, h]; exact World.alloc_heap_new W o
  · rw [if_neg h]
    by_cases h2 : k < W.heap.size
    · exact Below.heap_alloc _ _ _ h2
    · have h3 : (W.alloc o).heap.size ≤ k := by rw [World.size_alloc]; omega
      rw [Array.getElem?_eq_none h3, Array.getElem?_eq_none (by omega)]
def apFrame (w : World) (ap al : Option Addr) (np nl cp cl : Nat) (root : Int) (gv : Nat) (x : Ev) : Act :=
  ⟨#[.agg #[.slice ap np cp, .slice al nl cl], .int .i64 root, .pointer (some ⟨w.heap.size, 0, none⟩), undef, .pointer (some ⟨w.heap.size + 1, 0, none⟩), .pointer (some ⟨w.heap.size + 1 + 1, 0, none⟩), .pointer (some ⟨w.heap.size + 1 + 1 + 1 + 1, 0, none⟩), .pointer (some ⟨gv, 0, none⟩), .bool x.ok, undef, undef, .slice (some ⟨w.heap.size + 1 + 1 + 1, 0, none⟩) 0 0, .agg #[.slice ap np cp, .slice al nl cl], .int .i64 root, .func (.func 78) #[] #[.pointer (some ⟨w.heap.size + 1 + 1 + 1 + 1 + 1 + 1, 0, none⟩), .pointer (some ⟨w.heap.size + 1 + 1 + 1 + 1 + 1, 0, none⟩)], x.val, .bool x.ok, undef, undef, undef, undef, undef, undef, undef, undef, undef, undef, undef, undef, undef, undef, undef, undef, undef, undef, undef, undef, undef, undef, undef, undef, undef], []⟩
def APAx (w : World) (ap al : Option Addr) (np nl cp cl : Nat) (root : Int) (x : Ev) (a : Act) (C : Nat → Prop) (W : World) : Prop :=
  ∃ gv cs, x.val = .agg cs ∧ C gv ∧ gv < W.heap.size ∧ W.heap[gv]? = some (.cells cs 132 (0, 0)) ∧ a = apFrame w ap al np nl cp cl root gv x
theorem apax_kept {w : World} {ap al : Option Addr} {np nl cp cl : Nat} {root : Int} (x : Ev) (a : Act) (C : Nat → Prop) (A B : World) (h : APAx w ap al np nl cp cl root x a C A) (hk : KeptC (fun k => ¬ C k) A B) : APAx w ap al np nl cp cl root x a C B := by
  obtain ⟨gv, cs, h1, h2, h3, h4, h5⟩ := h
  exact ⟨gv, cs, h1, h2, Nat.lt_of_lt_of_le h3 hk.2.2.2.1, (hk.2.2.2.2 gv h3 (fun hn => hn h2)).trans h4, h5⟩
theorem api_wide {w W : World} {pre : List Ev} {C : Nat → Prop} (h : API w pre C W) (o : Obj) : API w pre (fun k => C k ∨ k = W.heap.size) (W.alloc o) := by
  have h2 := api_kept pre C W (W.alloc o) h (keptC_alloc _ W o)
  obtain ⟨h1, vr, hc, hn, h3⟩ := h2
  have hs : w.heap.size ≤ W.heap.size := by
    obtain ⟨-, vr, -, -, h4⟩ := h
    have := (apc_lt h4 (w.heap.size + 1) (Or.inl rfl)).2
    omega
  refine ⟨h1, vr, fun k h => Or.inl (hc k h), fun k h => ?_, h3⟩
  rcases h with h | rfl
  · exact hn k h
  · exact ⟨hs, by simp⟩
theorem ap_stop {w W : World} {pre : List Ev} {x : Ev} {C : Nat → Prop} {v1 : Value} (hok : x.ok = false) (hc1 : C (w.heap.size + 1)) (hc2 : C (w.heap.size + 2)) (h1 : W.heap[w.heap.size + 1]? = some (.cells #[v1] 56 (0, 0))) (h2 : W.heap[w.heap.size + 2]? = some (.cells #[.bool false] 4 (0, 0))) :
    ∃ C', KeptC C W (((W.setCell ⟨w.heap.size + 1, 0, none⟩ (.slice (some ⟨W.heap.size, 0, none⟩) 0 0)).setCell ⟨w.heap.size + 1 + 1, 0, none⟩ (.bool false)).alloc (Obj.cells #[] 101)) ∧ (∀ k, C' k → C k ∨ W.heap.size ≤ k) ∧
      APX w .ret (pre ++ [x]) C' (((W.setCell ⟨w.heap.size + 1, 0, none⟩ (.slice (some ⟨W.heap.size, 0, none⟩) 0 0)).setCell ⟨w.heap.size + 1 + 1, 0, none⟩ (.bool false)).alloc (Obj.cells #[] 101)) := by
  have g1 : w.heap.size + 1 < W.heap.size := (Array.getElem?_eq_some_iff.1 h1).1
  have g2 : w.heap.size + 2 < W.heap.size := (Array.getElem?_eq_some_iff.1 h2).1
  obtain ⟨X, hX⟩ : ∃ X, X = (W.setCell ⟨w.heap.size + 1, 0, none⟩ (.slice (some ⟨W.heap.size, 0, none⟩) 0 0)).setCell ⟨w.heap.size + 1 + 1, 0, none⟩ (.bool false) := ⟨_, rfl⟩
  rw [← hX]
  have hs : X.heap.size = W.heap.size := by rw [hX]; simp
  have k1 : KeptC C W X := by
    rw [hX]
    exact keptC_trans (keptC_setCell W 0 _ hc1) (keptC_setCell (C := C) _ 0 _ hc2) (fun j h => Or.inl h)
  have e1 : X.heap[w.heap.size + 1]? = some (.cells #[.slice (some ⟨W.heap.size, 0, none⟩) 0 0] 56 (0, 0)) := by
    rw [hX]
    exact (Below.heap_setCell _ _ _ _ (by simp)).trans (heap_setCell_same _ _ 0 _ _ _ h1)
  have e2 : X.heap[w.heap.size + 2]? = some (.cells #[.bool false] 4 (0, 0)) := by
    rw [hX]
    exact heap_setCell_same _ _ 0 _ _ _ ((Below.heap_setCell _ _ _ _ (by simp)).trans h2)
  refine ⟨fun k => C k ∨ k = W.heap.size, keptC_trans k1 (keptC_alloc (fun _ => False) X _) (fun j h => h.elim), fun k h => by rcases h with h | h; exact Or.inl h; exact Or.inr (by omega), rfl, ⟨pre, x, rfl, hok⟩, _, ?_, ?_, ⟨rfl, Or.inr ⟨W.heap.size, 0, #[], rfl, by omega, ?_, Nat.le_refl _, Nat.zero_le _, rfl, rfl⟩⟩, ?_⟩
  · exact (Below.heap_alloc X _ _ (by omega)).trans e1
  · exact (Below.heap_alloc X _ _ (by omega)).trans e2
  · have := heap_alloc_new X (Obj.cells #[] 101)
    rw [hs] at this
    exact this
  · rintro k (rfl | rfl | e)
    · exact Or.inl hc1
    · exact Or.inl hc2
    · injection e with e
      exact Or.inr (by have e : W.heap.size = k := e; omega)
def noDefer (ops : Array Oper) : Bool := ops.toList.all fun o => match o.op with | .defer _ => false | _ => true
theorem noDefer_spec {ops : Array Oper} (h : noDefer ops = true) : ∀ (i : Nat) (o : Oper), ops[i]? = some o → ∀ c, o.op ≠ .defer c := fun i o ho c e => by
  have hm : o ∈ ops.toList := by
    rw [← Array.getElem?_toList] at ho
    exact List.mem_of_getElem? ho
  have := List.all_eq_true.1 h o hm
  rw [e] at this
  cases this
def APL (w W : World) (C : Nat → Prop) (gv : Nat) (cs : Array Value) (L : List (ByteArray × ByteArray)) (wr : World) : Prop :=
  KeptC C W wr ∧ wr.heap[gv]? = some (.cells cs 132 (0, 0)) ∧ ∃ (C1 : Nat → Prop) (vr : Value), (∀ k, C1 k → C k ∨ W.heap.size ≤ k) ∧ (∀ k, APC w vr k → C1 k) ∧ (∀ k, C1 k → w.heap.size ≤ k ∧ k < wr.heap.size) ∧ APs w wr vr L
theorem ap_push {w W wd wB : World} {C : Nat → Prop} {gv b d lr : Nat} {cs : Array Value} {L : List (ByteArray × ByteArray)} {vr : Value} {xk y : ByteArray} {o : Obj} {C1 : Nat → Prop} {v1 : Value} (hlr : lr = L.length) (hk : KeptC C W wd) (hgv : wd.heap[gv]? = some (.cells cs 132 (0, 0))) (hsub : ∀ k, C1 k → C k ∨ W.heap.size ≤ k) (hap : ∀ k, APC w vr k → C1 k) (hbd : ∀ k, C1 k → w.heap.size ≤ k ∧ k < wd.heap.size)
    (h1 : wd.heap[w.heap.size + 1]? = some (.cells #[v1] 56 (0, 0))) (h2 : wd.heap[w.heap.size + 2]? = some (.cells #[.bool false] 4 (0, 0))) (h4 : wd.heap[w.heap.size + 4]? = some (.cells #[vr] 56 (0, 0))) (h5 : wd.ownsRow w.heap.size 101 2 vr L.length (prs L))
    (hgB : (wd.alloc o).grownBy wB vr.ownBlock) (hownB : wB.ownsRow w.heap.size 101 2 (.slice (some ⟨b, 0, none⟩) (lr + 1) d) (lr + 1) (prs L ++ [.string xk, .string y])) (hbB : vr.ownBlock = some b ∨ b = wd.heap.size + 1) :
    (KeptC C W wB ∧ wB.heap[gv]? = some (.cells cs 132 (0, 0)) ∧ wB.heap[w.heap.size + 4]? = some (.cells #[vr] 56 (0, 0))) ∧
    APL w W C gv cs (L ++ [(xk, y)]) (wB.setCell ⟨w.heap.size + 4, 0, none⟩ (.slice (some ⟨b, 0, none⟩) (lr + 1) d)) := by
  have hb1 : Below wd.heap.size wd (wd.alloc o) := (Below.refl _ _).alloc (Nat.le_refl _) _
  have K1 : KeptC (fun k => vr.ownBlock = some k) wd wB := ⟨hgB.os.trans hb1.os, hgB.tape.trans hb1.tape, hgB.output.trans hb1.output, Nat.le_trans hb1.size hgB.size, fun j hj hn => (hgB.block j (Nat.lt_of_lt_of_le hj hb1.size) (fun e => hn e.symm)).trans (hb1.block j hj)⟩
  have far : ∀ {g : Nat} {cc : Array Value} {T : Nat}, wd.heap[g]? = some (.cells cc T (0, 0)) → (101 : Nat) ≠ T → wB.heap[g]? = some (.cells cc T (0, 0)) := fun {g cc T} h hne => (K1.2.2.2.2 g (Array.getElem?_eq_some_iff.1 h).1 (fun e => hne (typ_one (own_typ h5 e) ⟨_, _, h⟩))).trans h
  have e1 := far h1 (by decide)
  have e2 := far h2 (by decide)
  have e4 := far h4 (by decide)
  have eg := far hgv (by decide)
  have k1 : KeptC C W wB := keptC_trans hk K1 (fun j e => hsub j (hap j (Or.inr (Or.inr (Or.inr e)))))
  have hne : gv ≠ w.heap.size + 4 := fun e => by
    rw [e, h4] at hgv
    injection hgv with hgv
    injection hgv with _ ht _
    exact absurd ht (by decide)
  refine ⟨⟨k1, eg, e4⟩, ?_⟩
  obtain ⟨X, hX⟩ : ∃ X, X = wB.setCell ⟨w.heap.size + 4, 0, none⟩ (.slice (some ⟨b, 0, none⟩) (lr + 1) d) := ⟨_, rfl⟩
  rw [← hX]
  have k2 : KeptC (fun k => k = w.heap.size + 4) wB X := by rw [hX]; exact keptC_setCell (C := fun k => k = w.heap.size + 4) wB 0 _ rfl
  have hs : X.heap.size = wB.heap.size := by rw [hX]; simp
  have f4 : X.heap[w.heap.size + 4]? = some (.cells #[.slice (some ⟨b, 0, none⟩) (lr + 1) d] 56 (0, 0)) := by rw [hX]; exact heap_setCell_same _ _ 0 _ _ _ e4
  have fx : ∀ {g : Nat} {ob : Obj}, wB.heap[g]? = some ob → g ≠ w.heap.size + 4 → X.heap[g]? = some ob := fun h hn => (k2.2.2.2.2 _ (Array.getElem?_eq_some_iff.1 h).1 hn).trans h
  have hbl := hownB.lt b rfl
  refine ⟨keptC_trans k1 k2 (fun j e => by rw [e]; exact hsub _ (hap _ (Or.inr (Or.inr (Or.inl rfl))))), fx eg hne, fun k => C1 k ∨ k = b, .slice (some ⟨b, 0, none⟩) (lr + 1) d, fun k h => ?_, fun k h => ?_, fun k h => ?_, ⟨v1, fx e1 (by omega)⟩, fx e2 (by omega), f4, ?_⟩
  · rcases h with h | rfl
    · exact hsub k h
    · rcases hbB with hbB | hbB
      · exact hsub k (hap k (Or.inr (Or.inr (Or.inr hbB))))
      · exact Or.inr (by have := hk.2.2.2.1; omega)
  · rcases h with h | h | h | h
    · exact Or.inl (hap k (Or.inl h))
    · exact Or.inl (hap k (Or.inr (Or.inl h)))
    · exact Or.inl (hap k (Or.inr (Or.inr (Or.inl h))))
    · injection h with h
      exact Or.inr (by have h : b = k := h; omega)
  · rcases h with h | rfl
    · have := hbd k h
      have h3 := K1.2.2.2.1
      exact ⟨this.1, by omega⟩
    · exact ⟨hbl.1, by omega⟩
  · have hl : (L ++ [(xk, y)]).length = lr + 1 := by rw [hlr]; simp
    have hp : prs (L ++ [(xk, y)]) = prs L ++ [.string xk, .string y] := by simp [prs]
    rw [hl, hp]
    refine own_kept hownB k2 (fun j e h => ?_)
    exact absurd (typ_one (own_typ hownB e) (by rw [h]; exact ⟨_, _, e4⟩)) (by decide)
set_option maxHeartbeats 4000000 in
set_option maxRecDepth 100000 in
theorem implAllPairs_any (ps : List ByteArray) (ls : List (Int × ByteArray)) (hp : ps.length ≤ 1048576) (hl : ls.length ≤ 1048576) (hps : ∀ s ∈ ps, s.size ≤ 1048576) (hls : ∀ p ∈ ls, p.2.size ≤ 1048576) (ap al : Option Addr) (np nl cp cl : Nat) (root : Int) (w : World) (hT : SumTab w) (hd : DiskAt w (.agg #[.slice ap np cp, .slice al nl cl]) ps ls) :
    Calls Tryz.prog 48 #[.agg #[.slice ap np cp, .slice al nl cl], .int .i64 root] w fun e w' => allO (allI (fun q => rdN (readD ps ls q)) root) w w' e := by
  have hmf : ∀ (fn : Fn) (first cap : Array Value) (w : World), (Instr.makeFunc fn first cap).run Tryz.prog w = .ok (.func fn first cap) w := fun _ _ _ _ => rfl
  obtain ⟨Wc, hWc⟩ : ∃ Wc, Wc = ((((((w.alloc (.cells #[.slice ap np cp, .slice al nl cl] 45 (0, 0))).alloc (.cells #[.slice none 0 0] 56 (0, 0))).alloc (.cells #[.bool false] 4 (0, 0))).alloc (.cells #[] 101 (0, 0))).alloc (.cells #[.slice (some ⟨w.heap.size + 1 + 1 + 1, 0, none⟩) 0 0] 56 (0, 0))).alloc (.cells #[.slice ap np cp, .slice al nl cl] 45 (0, 0))).alloc (.cells #[.int .i64 root] 3 (0, 0)) := ⟨_, rfl⟩
  have hlow : Below w.heap.size w Wc := by
    rw [hWc]
    refine Below.alloc (Below.alloc (Below.alloc (Below.alloc (Below.alloc (Below.alloc (Below.alloc (Below.refl _ _) ?_ _) ?_ _) ?_ _) ?_ _) ?_ _) ?_ _) ?_ _ <;> simp <;> omega
  have b1 : Wc.heap[w.heap.size + 1]? = some (.cells #[.slice none 0 0] 56 (0, 0)) := by rw [hWc]; simp only [alloc_get, World.size_alloc]; simp
  have b2 : Wc.heap[w.heap.size + 2]? = some (.cells #[.bool false] 4 (0, 0)) := by rw [hWc]; simp only [alloc_get, World.size_alloc]; simp
  have b3 : Wc.heap[w.heap.size + 3]? = some (.cells #[] 101 (0, 0)) := by rw [hWc]; simp only [alloc_get, World.size_alloc]; simp
  have b4 : Wc.heap[w.heap.size + 4]? = some (.cells #[.slice (some ⟨w.heap.size + 3, 0, none⟩) 0 0] 56 (0, 0)) := by rw [hWc]; simp only [alloc_get, World.size_alloc]; simp
  have b5 : Wc.heap[w.heap.size + 5]? = some (.cells #[.slice ap np cp, .slice al nl cl] 45 (0, 0)) := by rw [hWc]; simp only [alloc_get, World.size_alloc]; simp
  have b6 : Wc.heap[w.heap.size + 6]? = some (.cells #[.int .i64 root] 3 (0, 0)) := by rw [hWc]; simp only [alloc_get, World.size_alloc]; simp
  have hsz : Wc.heap.size = w.heap.size + 7 := by rw [hWc]; simp
  have hseq := fun n => nodesOf_seq n root (w.heap.size + 6) (w.heap.size + 5) hp hl hps hls hT hd hlow b6 b5
  have hP0 : APs w Wc (.slice (some ⟨w.heap.size + 3, 0, none⟩) 0 0) [] := ⟨⟨_, b1⟩, b2, b4, ⟨rfl, Or.inr ⟨w.heap.size + 3, 0, #[], rfl, by omega, b3, Nat.le_refl _, Nat.zero_le _, rfl, rfl⟩⟩⟩
  have hI0 : API w [] (APC w (.slice (some ⟨w.heap.size + 3, 0, none⟩) 0 0)) Wc := ⟨fun x h => (by cases h), _, fun _ h => h, apc_lt hP0, hP0⟩
  refine (callsIn_wide (n := 3)).1 ?_
  refine callsIn_of_wp_marks Tryz.func48 rfl trivial ?_ rfl
  simp only [Tryz.ntmps48, List.size_toArray, List.length_cons, List.length_nil, Nat.reduceAdd, Nat.reduceSub, Array.replicate_succ, Array.replicate_zero, List.push_toArray, List.append_toArray, List.nil_append, List.cons_append]
  gi_wp2_with (refine ⟨trivial, ?_⟩; gi_at_call 65; refine (callsIn_wide.2 (nodesOf_any (.slice ap np cp) (.slice al nl cl) root _)).mono ?_; rintro e w1 ⟨rfl, rfl⟩)
  rw [← hWc]
  refine wpIn_rangeFunc_sep2 rfl rfl (gf := 78) (lb := #[.pointer (some ⟨w.heap.size + 6, 0, none⟩), .pointer (some ⟨w.heap.size + 5, 0, none⟩)]) rfl trivial (enters_of Tryz.func78 (by kernel_rfl) rfl) (hseq _) hlow.size (fun k h => by rcases h with h | h <;> omega) (fun x C C' A B h1 h2 h3 => lies_kept h1 h2 h3) (fun _ => rfl) (API w) (APX w) api_kept apx_kept api_lt (APC w (.slice (some ⟨w.heap.size + 3, 0, none⟩) 0 0)) hI0 (fun k h e => ?apart) (APAx w ap al np nl cp cl root) apax_kept ?assign ?body ?done ?stop
  case apart =>
    rcases h with h | h | h | h
    · omega
    · omega
    · omega
    · injection h with h
      have h : w.heap.size + 3 = k := h
      omega
  case done =>
    rintro D xs C W hD hnD0 hS ⟨hok, vr, hsub, hin, ⟨v1, h1⟩, h2, h4, h5⟩ hlowW hdef
    have hnD : ¬ APC w vr D := fun h => hnD0 (hsub D h)
    clear hnD0 hsub hin
    have HA := hide (all_done _ root hok hS).1
    obtain ⟨xr, yr, rfl⟩ := own_slice h5
    obtain ⟨lr, hlr⟩ : ∃ lr, lr = (pairsV (xs.map Ev.vis)).length := ⟨_, rfl⟩
    have HLr := hide hlr
    rw [← hlr] at h4 h5 hnD
    have c4 : W.cell? ⟨w.heap.size + 1 + 1 + 1 + 1, 0, none⟩ = some (.slice xr lr yr) := (cell_at h4 0).1
    have c1 : W.cell? ⟨w.heap.size + 1, 0, none⟩ = some v1 := (cell_at h1 0).1
    have c2 : W.cell? ⟨w.heap.size + 1 + 1, 0, none⟩ = some (.bool false) := (cell_at h2 0).1
    have f1 : W.frozen? ⟨w.heap.size + 1, 0, none⟩ = false := (cell_at h1 0).2
    have f2 : W.frozen? ⟨w.heap.size + 1 + 1, 0, none⟩ = false := (cell_at h2 0).2
    have H1 := hide h1
    have H2 := hide h2
    have H5 := hide h5
    have HLo := hide (hlow.trans hlowW)
    have HDe := hide hdef
    clear h1 h2 h4 h5 hlowW hdef hlr b1 b2 b3 b4 b5 b6 hseq hI0 hP0 hS hok hp hl hps hls hT hd hlow
    gi_wp2_with fail
    obtain ⟨W3, hW3⟩ : ∃ W3, W3 = (W.setCell ⟨w.heap.size + 1, 0, none⟩ (.slice xr lr yr)).setCell ⟨w.heap.size + 1 + 1, 0, none⟩ (.bool true) := ⟨_, rfl⟩
    rw [← hW3]
    have hn1 : D ≠ w.heap.size + 1 := fun e => hnD (Or.inl e)
    have hn2 : D ≠ w.heap.size + 1 + 1 := fun e => hnD (Or.inr (Or.inl e))
    have k3 : KeptC (fun k => k = w.heap.size + 1 ∨ k = w.heap.size + 1 + 1) W W3 := by
      rw [hW3]
      exact keptC_trans (keptC_setCell W 0 _ (Or.inl rfl)) (keptC_setCell (C := fun k => k = w.heap.size + 1 ∨ k = w.heap.size + 1 + 1) _ 0 _ (Or.inr rfl)) (fun j h => Or.inl h)
    have hD3 : W3.heap[D]? = some (.deferred (some [])) := (k3.2.2.2.2 D (Array.getElem?_eq_some_iff.1 HDe.out).1 (fun e => by rcases e with e | e; exact hn1 e; exact hn2 e)).trans HDe.out
    have g1 : W3.heap[w.heap.size + 1]? = some (.cells #[.slice xr lr yr] 56 (0, 0)) := by
      rw [hW3]
      exact (Below.heap_setCell _ _ _ _ (by simp)).trans (heap_setCell_same _ _ 0 _ _ _ H1.out)
    have g2 : W3.heap[w.heap.size + 1 + 1]? = some (.cells #[.bool true] 4 (0, 0)) := by
      rw [hW3]
      exact heap_setCell_same _ _ 0 _ _ _ ((Below.heap_setCell _ _ _ _ (by simp)).trans H2.out)
    refine ⟨by simp, .inl ⟨_, _, rfl, run_takeDeferred hD3, ?_⟩⟩
    obtain ⟨W4, hW4⟩ : ∃ W4, W4 = W3.putObj D (.deferred none) := ⟨_, rfl⟩
    rw [← hW4]
    have k4 : KeptC (fun k => k = D) W3 W4 := by rw [hW4]; exact keptC_putObj W3 _ rfl
    have e1 := (cell_at ((k4.2.2.2.2 _ (Array.getElem?_eq_some_iff.1 g1).1 (fun e => hn1 e.symm)).trans g1) 0).1
    have e2 := (cell_at ((k4.2.2.2.2 _ (Array.getElem?_eq_some_iff.1 g2).1 (fun e => hn2 e.symm)).trans g2) 0).1
    refine ⟨.tuple #[.slice xr lr yr, .bool true], ?_, ?_⟩
    · simp [results, e1, e2, go_sem]
    · rw [HA.out]
      refine ⟨_, rfl, ?_, ?_⟩
      · have := own_kept (own_kept H5.out k3 (fun j e hx => ?_)) k4 (fun j e hx => hnD (by rw [← hx]; exact Or.inr (Or.inr (Or.inr e))))
        · rw [HLr.out] at this ⊢
          exact this
        · rcases hx with hx | hx
          · subst hx; exact absurd (typ_one (own_typ H5.out e) ⟨_, _, H1.out⟩) (by decide)
          · subst hx; exact absurd (typ_one (own_typ H5.out e) ⟨_, _, H2.out⟩) (by decide)
      · have z1 : w.heap.size ≤ W.heap.size := HLo.out.size
        exact (HLo.out.trans (keptC_below k3 (fun k h => by rcases h with h | h <;> omega) z1)).trans (keptC_below k4 (fun k h => by rw [h]; omega) (Nat.le_trans z1 k3.2.2.2.1))
  case stop =>
    rintro D c pre C W hD hnD ⟨t, ht⟩ ⟨rfl, ⟨pr, x, rfl, hx⟩, v, h1, h2, h5, hC⟩ hlowW hdef
    have HA := hide (all_stop _ root hx ht).1
    obtain ⟨xr, yr, rfl⟩ := own_slice h5
    have hn1 : D ≠ w.heap.size + 1 := fun e => hnD (hC D (Or.inl e))
    have hn2 : D ≠ w.heap.size + 1 + 1 := fun e => hnD (hC D (Or.inr (Or.inl e)))
    have hn5 : ∀ j, (Value.slice xr 0 yr).ownBlock = some j → j ≠ D := fun j e h => hnD (by rw [← h]; exact hC j (Or.inr (Or.inr e)))
    have H1 := hide h1
    have H2 := hide h2
    have H5 := hide h5
    have HLo := hide (hlow.trans hlowW)
    have HDe := hide hdef
    clear h1 h2 h5 hlowW hdef b1 b2 b3 b4 b5 b6 hseq hI0 hP0 ht hx hC hp hl hps hls hT hd hlow
    gi_wp2_with fail
    refine ⟨by simp, .inl ⟨_, _, rfl, run_takeDeferred HDe.out, ?_⟩⟩
    obtain ⟨W4, hW4⟩ : ∃ W4, W4 = W.putObj D (.deferred none) := ⟨_, rfl⟩
    rw [← hW4]
    have k4 : KeptC (fun k => k = D) W W4 := by rw [hW4]; exact keptC_putObj W _ rfl
    have e1 := (cell_at ((k4.2.2.2.2 _ (Array.getElem?_eq_some_iff.1 H1.out).1 (fun e => hn1 e.symm)).trans H1.out) 0).1
    have e2 : W4.cell? ⟨w.heap.size + 1 + 1, 0, none⟩ = _ := (cell_at ((k4.2.2.2.2 _ (Array.getElem?_eq_some_iff.1 H2.out).1 (fun e => hn2 e.symm)).trans H2.out) 0).1
    refine ⟨.tuple #[.slice xr 0 yr, .bool false], ?_, ?_⟩
    · simp [results, e1, e2, go_sem]
    · rw [HA.out]
      exact ⟨_, rfl, own_kept H5.out k4 (fun j e h => hn5 j e h), HLo.out.trans (keptC_below k4 (fun k h => by rw [h]; have := hsz; omega) HLo.out.size)⟩
  case assign =>
    intro l m pre x C W K hI hLi hK
    have hw2 := fun o => api_wide hI o
    have HI2 := hide hw2
    have HK := hide hK
    have HLt : Hid (∀ o, KeptC C W (W.alloc o)) := hide (fun o => keptC_alloc C W o)
    clear b1 b2 b3 b4 b5 b6 hseq hI0 hP0 hw2 hK hI hp hl hps hls hT hd hlow hsz hWc
    simp only [encs]
    cases hok : x.ok with
    | false =>
      have hv := hLi.1 hok
      clear hLi
      have HV := hide hv
      have HOk := hide hok
      rw [hv, badVal]
      clear hv hok
      gi_wp2_with fail
      refine HK.out _ (fun k => C k ∨ k = W.heap.size) _ (HLt.out _) (fun k h => by rcases h with h | h; exact Or.inl h; exact Or.inr (by omega)) (HI2.out _) ⟨W.heap.size, _, by rw [HV.out, badVal], Or.inr rfl, by simp, heap_alloc_new W _, ?_⟩
      rw [apFrame, HV.out, HOk.out, badVal]
    | true =>
      obtain ⟨vk, vv, vc, vw, hv, hno, -, hwy⟩ := hLi.2 hok
      obtain ⟨a1, c1, a2, c2, a3, c3, e⟩ := nodeOwn_cells hno
      obtain ⟨-, rfl, rfl, rfl⟩ := agg4 e
      obtain ⟨a4, c4, rfl⟩ : ∃ a4 c4, vw = .slice a4 x.vis.way.length c4 := by obtain ⟨X, -, h, -⟩ := hwy; exact own_slice h
      clear hLi hno hwy e
      have HV := hide hv
      have HOk := hide hok
      rw [hv]
      clear hv hok
      gi_wp2_with fail
      refine HK.out _ (fun k => C k ∨ k = W.heap.size) _ (HLt.out _) (fun k h => by rcases h with h | h; exact Or.inl h; exact Or.inr (by omega)) (HI2.out _) ⟨W.heap.size, _, HV.out, Or.inr rfl, by simp, heap_alloc_new W _, ?_⟩
      rw [apFrame, HV.out, HOk.out]
  case body =>
    intro l m pre x a' C W hSp hI hAx hLi
    obtain ⟨gv, cs, hv, hCg, hgl, hgv, rfl⟩ := hAx
    obtain ⟨hpre, vr, hc, hn, ⟨v1, h1⟩, h2, h4, h5⟩ := hI
    clear b1 b2 b3 b4 b5 b6 hseq hI0 hP0 hlow hsz hWc
    cases hok : x.ok with
    | false =>
      have hvb := hLi.1 hok
      have q1 : W.cell? ⟨w.heap.size + 1, 0, none⟩ = some v1 := (cell_at h1 0).1
      have q2 : W.cell? ⟨w.heap.size + 1 + 1, 0, none⟩ = some (.bool false) := (cell_at h2 0).1
      have z1 : W.frozen? ⟨w.heap.size + 1, 0, none⟩ = false := (cell_at h1 0).2
      have z2 : W.frozen? ⟨w.heap.size + 1 + 1, 0, none⟩ = false := (cell_at h2 0).2
      have g1 : w.heap.size + 1 < W.heap.size := (Array.getElem?_eq_some_iff.1 h1).1
      have g2 : w.heap.size + 2 < W.heap.size := (Array.getElem?_eq_some_iff.1 h2).1
      have HS := hide (⟨hpre, hc, hn, h1, h2, hSp, hok, hvb⟩ : _ ∧ _ ∧ _ ∧ _ ∧ _ ∧ _ ∧ _ ∧ _)
      rw [apFrame, hok]
      clear hpre hc hn h1 h2 h4 h5 hSp hLi hvb hv hgv hgl hCg hp hl hps hls hT hd hok
      gi_wp2_with fail
      obtain ⟨-, hc, -, h1, h2, -, hok, -⟩ := HS.out
      exact ap_stop hok (hc _ (Or.inl rfl)) (hc _ (Or.inr (Or.inl rfl))) h1 h2
    | true =>
      obtain ⟨vk, vv, vc, vw, hv2, hno, hnc, -⟩ := hLi.2 hok
      obtain ⟨a1, c1, a2, c2, a3, c3, e⟩ := nodeOwn_cells hno
      obtain ⟨-, rfl, rfl, rfl⟩ := agg4 e
      obtain ⟨t, ht⟩ := hSp
      have hR := comes_vis _ root hok ht
      have hnok : x.vis.nd.ok = true := by
        have := rdN_right2 ps ls x.vis.page (by show (rdN (readD ps ls x.vis.page)).2 = true; rw [hR])
        have h2 : (rdN (readD ps ls x.vis.page)).1 = x.vis.nd := by rw [hR]
        rw [← h2]
        exact this
      obtain ⟨hvk, hv4, -⟩ := ok_cnt hnok
      rw [hv] at hv2
      injection hv2 with hv2
      subst hv2
      have hcnt := comes_cnt _ (fun p hp => (ok_cnt (rdN_right2 ps ls p hp)).2.2) root ht
      have hpl : (pairsV (pre.map Ev.vis)).length ≤ 88004 := by
        have h1 : (pairsV (pre.map Ev.vis)).length ≤ 4 * (pre.map Ev.vis).length := pairsV_len (fun v hv => by
          obtain ⟨y, hy, rfl⟩ := List.mem_map.1 hv
          obtain ⟨u1, u2, hu⟩ := List.append_of_mem hy
          have hoy := hpre y hy
          have hRy := comes_vis _ root hoy (pre := u1) (x := y) (t := (u2 ++ [x]).map Ev.plain ++ t) (by rw [← ht, hu]; simp)
          have h2 : (rdN (readD ps ls y.vis.page)).1 = y.vis.nd := by rw [hRy]
          have := rdN_right2 ps ls y.vis.page (by show (rdN (readD ps ls y.vis.page)).2 = true; rw [hRy])
          rw [← h2]
          exact (ok_cnt this).2.1)
        rw [List.length_map] at h1
        rw [List.length_append] at hcnt
        simp at hcnt
        omega
      obtain ⟨L0, hL0⟩ : ∃ L0, L0 = pairsV (pre.map Ev.vis) := ⟨_, rfl⟩
      have HEnd : Hid (pairsV ((pre ++ [x]).map Ev.vis) = L0 ++ pairsN x.vis.nd) := hide (by rw [hL0, List.map_append]; exact pairsV_snoc _ _)
      have HPre : Hid (∀ y ∈ pre ++ [x], y.ok = true) := hide (fun y hy => by rcases List.mem_append.1 hy with h | h; exact hpre y h; rw [List.mem_singleton.1 h]; exact hok)
      rw [← hL0] at hpl
      obtain ⟨nd, hnd⟩ : ∃ nd, nd = x.vis.nd := ⟨_, rfl⟩
      rw [← hnd] at HEnd hno hnc hvk hv4 hgv
      obtain ⟨lk, hlk⟩ : ∃ n, n = nd.ks.length := ⟨_, rfl⟩
      obtain ⟨lv, hlv⟩ : ∃ n, n = nd.vs.length := ⟨_, rfl⟩
      obtain ⟨lc, hlc⟩ : ∃ n, n = nd.cs.length := ⟨_, rfl⟩
      rw [← hlk, ← hlv, ← hlc] at hno hnc hgv
      rw [← hlk, ← hlv] at hvk
      rw [← hlv] at hv4
      have HLn := hide (⟨hlk, hlv, hlc⟩ : _ ∧ _ ∧ _)
      have HNo := hide hno
      have HNc := hide hnc
      have hPL : APL w W C gv #[.int .i64 x.vis.page, .bool nd.lf, .slice a1 lk c1, .slice a2 lv c2, .slice a3 lc c3, vw] L0 W := ⟨keptC_refl _ _, hgv, C, vr, fun _ h => Or.inl h, hc, hn, by rw [hL0]; exact ⟨⟨v1, h1⟩, h2, h4, h5⟩⟩
      have HPL := hide hPL
      have q3 : W.cell? ⟨gv, 3, none⟩ = some (.slice a2 lv c2) := (cell_at hgv 3).1
      rw [apFrame, hok]
      clear hno hnc hgv hPL hv hCg hgl hpre hc hn h1 h2 h4 h5 hLi ht hR hnok hcnt e hlk hlv hlc hL0 hnd hok hp hl hps hls hT hd
      gi_wp2_with fail
      clear q3
      gi_loopg [24] lv (fun q iv wr => ∃ i : Nat, i ≤ lv ∧ q + i = lv ∧ iv = .int .i64 (i : Int) ∧ Hid (APL w W C gv #[.int .i64 x.vis.page, .bool nd.lf, .slice a1 lk c1, .slice a2 lv c2, .slice a3 lc c3, vw] (L0 ++ (pairsN nd).take i) wr))
      case atStart => exact ⟨0, Nat.zero_le _, by omega, rfl, hide (by rw [List.take_zero, List.append_nil]; exact HPL.out)⟩
      case round =>
        obtain ⟨i, hi, hq, rfl, HP⟩ := hrel
        have HQi := hide hq
        clear hq
        by_cases hlt : i < lv
        · obtain ⟨o1, o2, -⟩ := node_rowsW HNo.out
          obtain ⟨g1, rfl⟩ : ∃ g, a1 = some ⟨g, 0, none⟩ := by
            obtain ⟨g, e, -⟩ := row_getS (i := 0) (by rw [← HLn.out.1] at o1; exact o1) (by rw [← HLn.out.1]; omega) HLn.out.1
            exact ⟨g, e⟩
          obtain ⟨g2, rfl⟩ : ∃ g, a2 = some ⟨g, 0, none⟩ := by
            obtain ⟨g, e, -⟩ := row_getS (i := 0) (by rw [← HLn.out.2.1] at o2; exact o2) (by rw [← HLn.out.2.1]; omega) HLn.out.2.1
            exact ⟨g, e⟩
          obtain ⟨xk, hxk⟩ : ∃ y, y = nd.ks.getD i ⟨#[]⟩ := ⟨_, rfl⟩
          obtain ⟨y, hy⟩ : ∃ y, y = nd.vs.getD i ⟨#[]⟩ := ⟨_, rfl⟩
          have hcell : ∀ wx, KeptC C W wx → wx.cell? ⟨g1, i, none⟩ = some (.string xk) ∧ wx.cell? ⟨g2, i, none⟩ = some (.string y) := fun wx hk => by
            have h := nodeOwn_kept HNo.out hk HNc.out
            exact ⟨by rw [hxk]; exact node_keyW h HLn.out.1 (by omega), by rw [hy]; exact node_valW h HLn.out.2.1 hlt⟩
          have HCe := hide hcell
          have HStep : Hid ((pairsN nd).take i ++ [(xk, y)] = (pairsN nd).take (i + 1)) := hide (by rw [hxk, hy]; exact pairs_step nd i (by rw [← HLn.out.2.1]; exact hlt))
          have hcy := (hcell wr HP.out.1).2
          have hi0 : (0 : Int) ≤ (i : Int) := by omega
          have hi1 : (i : Int) < (lv : Int) := by omega
          have hi2 : (i : Int) < (lk : Int) := by omega
          clear o1 o2 hxk hy hcell
          gi_wp2_with fail
          clear hcy
          obtain ⟨wd, hwd⟩ : ∃ wd, wd = wr.drew := ⟨_, rfl⟩
          have hbd0 : Below wr.heap.size wr wd := by rw [hwd]; exact (Below.refl _ _).drew
          obtain ⟨hk, hgv, C1, vr, hsub, hap, hbd, ⟨v1, h1⟩, h2, h4, h5⟩ := HP.out
          replace hk : KeptC C W wd := keptC_trans hk (keptC_of_below (C := fun _ => False) hbd0) (fun _ h => h.elim)
          replace hgv := stays hgv hbd0
          replace h1 := stays h1 hbd0
          replace h2 := stays h2 hbd0
          replace h4 := stays h4 hbd0
          replace h5 := own_stays h5 hbd0
          replace hbd : ∀ k, C1 k → w.heap.size ≤ k ∧ k < wd.heap.size := fun k h => ⟨(hbd k h).1, Nat.lt_of_lt_of_le (hbd k h).2 hbd0.size⟩
          obtain ⟨xr, yr, rfl⟩ := own_slice h5
          obtain ⟨lr, hlr⟩ : ∃ lr, lr = (L0 ++ (pairsN nd).take i).length := ⟨_, rfl⟩
          have hlrb : lr ≤ 100000 := by rw [hlr, List.length_append, List.length_take]; omega
          rw [← hlr] at h4 hap
          have h5' : wd.ownsRow w.heap.size 101 2 (.slice xr lr yr) (L0 ++ (pairsN nd).take i).length (prs (L0 ++ (pairsN nd).take i)) := by rw [← hlr] at h5 ⊢; exact h5
          have HAll := hide (⟨hlr, hk, hgv, hsub, hap, hbd, h1, h2, h4, h5'⟩ : _ ∧ _ ∧ _ ∧ _ ∧ _ ∧ _ ∧ _ ∧ _ ∧ _ ∧ _)
          have HSw : Hid (∀ wx, KeptC C W wx → wx.heap[gv]? = some (.cells #[.int .i64 x.vis.page, .bool nd.lf, .slice (some ⟨g1, 0, none⟩) lk c1, .slice (some ⟨g2, 0, none⟩) lv c2, .slice a3 lc c3, vw] 132 (0, 0)) → wx.cell? ⟨gv, 2, none⟩ = some (.slice (some ⟨g1, 0, none⟩) lk c1) ∧ wx.cell? ⟨g1, i, none⟩ = some (.string xk)) := hide (fun wx hk hg => ⟨(cell_at hg 2).1, (HCe.out wx hk).1⟩)
          have hHeld0 := HSw.out wd hk hgv
          clear hk hgv hsub hap hbd h1 h2 h4 h5 h5' hlr hbd0
          refine region_round (S := fun wx => wx.cell? ⟨gv, 2, none⟩ = some (.slice (some ⟨g1, 0, none⟩) lk c1) ∧ wx.cell? ⟨g1, i, none⟩ = some (.string xk)) (by kernel_rfl) ?hlo (noDefer_spec (by kernel_rfl)) (by rw [← hwd]; exact hHeld0) (fun _ => ?_)
          case hlo => simp [LetsOut, Exit.then, Exit.inBlock, sepPost]
          have hHeld := hHeld0
          rw [← hwd]
          clear hwd hHeld0
          refine takeW 1 30 ?_ rfl rfl (by kernel_rfl) (by kernel_rfl) (by kernel_rfl) (fun _ _ _ h => h) (Or.inl ⟨by rfl, ?_⟩) hHeld ?_
          rotate_left
          · (intro wx hSw; (try dsimp only at hSw); go_simp; try with_reducible rfl)
          simp only [List.setIfInBounds_toArray, List.set_cons_zero, List.set_cons_succ]
          refine takeW 2 31 ?_ rfl rfl (by kernel_rfl) (by kernel_rfl) (by kernel_rfl) (fun _ _ _ h => h) (Or.inl ⟨by rfl, ?_⟩) hHeld ?_
          rotate_left
          · (intro wx hSw; (try dsimp only at hSw); go_simp; try with_reducible rfl)
          simp only [List.setIfInBounds_toArray, List.set_cons_zero, List.set_cons_succ]
          refine takeW 3 32 ?_ rfl rfl (by kernel_rfl) (by kernel_rfl) (by kernel_rfl) (fun _ _ _ h => h) (Or.inl ⟨by rfl, ?_⟩) hHeld ?_
          rotate_left
          · (intro wx hSw; (try dsimp only at hSw); go_simp; try with_reducible rfl)
          simp only [List.setIfInBounds_toArray, List.set_cons_zero, List.set_cons_succ]
          refine takeW 4 33 ?_ rfl rfl (by kernel_rfl) (by kernel_rfl) (by kernel_rfl) (fun _ _ _ h => h) (Or.inl ⟨by rfl, ?_⟩) hHeld ?_
          rotate_left
          · (intro wx hSw; (try dsimp only at hSw); go_simp; try with_reducible rfl)
          simp only [List.setIfInBounds_toArray, List.set_cons_zero, List.set_cons_succ]
          refine takeW 5 34 ?_ rfl rfl (by kernel_rfl) (by kernel_rfl) (by kernel_rfl) (fun _ _ _ h => h) (Or.inl ⟨by rfl, ?_⟩) hHeld ?_
          rotate_left
          · (intro wx hSw; (try dsimp only at hSw); go_simp; try with_reducible rfl)
          simp only [List.setIfInBounds_toArray, List.set_cons_zero, List.set_cons_succ]
          refine takeW 6 35 ?_ rfl rfl (by kernel_rfl) (by kernel_rfl) (by kernel_rfl) (fun _ _ _ h => h) (Or.inl ⟨by rfl, ?_⟩) hHeld ?_
          rotate_left
          · (intro wx hSw; (try dsimp only at hSw); go_simp; try with_reducible rfl)
          simp only [List.setIfInBounds_toArray, List.set_cons_zero, List.set_cons_succ]
          refine takeW 7 36 ?_ rfl rfl (by kernel_rfl) (by kernel_rfl) (by kernel_rfl) (fun _ _ _ h => h) (Or.inl ⟨by rfl, ?_⟩) hHeld ?_
          rotate_left
          · (intro wx hSw; (try dsimp only at hSw); go_simp; try with_reducible rfl)
          simp only [List.setIfInBounds_toArray, List.set_cons_zero, List.set_cons_succ]
          refine takeW 8 37 ?_ rfl rfl (by kernel_rfl) (by kernel_rfl) (by kernel_rfl) (fun _ _ _ h => h) (Or.inl ⟨by rfl, ?_⟩) hHeld ?_
          rotate_left
          · (intro wx hSw; (try dsimp only at hSw); go_simp; try with_reducible rfl)
          simp only [List.setIfInBounds_toArray, List.set_cons_zero, List.set_cons_succ]
          refine wpAnyH_ready (rs := [0, 9]) (by kernel_rfl) (by simp) ?_
          have HSa : Hid (∀ o, (fun wx : World => wx.cell? ⟨gv, 2, none⟩ = some (.slice (some ⟨g1, 0, none⟩) lk c1) ∧ wx.cell? ⟨g1, i, none⟩ = some (.string xk)) (wd.alloc o)) := hide (fun o => HSw.out _ (keptC_trans HAll.out.2.1 (keptC_alloc (fun _ => False) wd o) (fun _ h => h.elim)) (stays HAll.out.2.2.1 ((Below.refl _ _).alloc (Nat.le_refl _) o)))
          have m0 : wd.cell? ⟨w.heap.size + 1 + 1 + 1 + 1, 0, none⟩ = some (.slice xr lr yr) := (cell_at HAll.out.2.2.2.2.2.2.2.2.1 0).1
          have m0a : ∀ o, (wd.alloc o).cell? ⟨w.heap.size + 1 + 1 + 1 + 1, 0, none⟩ = some (.slice xr lr yr) := fun o => (cell_at (stays HAll.out.2.2.2.2.2.2.2.2.1 ((Below.refl _ _).alloc (Nat.le_refl _) o)) 0).1
          refine ready2 rfl rfl ?_
          apply branch2
          · intro hG K hK
            go_simp
            refine hK.out _ _ hHeld (fun _ => ?_)
            clear hK K
            refine wpAnyH_ready (rs := [9]) (by kernel_rfl) (by simp) ?_
            refine AllReadyH.cons rfl (fun K hK => ?_) AllReadyH.nil
            go_simp
            refine hK.out _ _ (HSa.out _) (fun _ => ?_)
            clear hK K
            exact hG
          · intro hG K hK
            go_simp
            refine hK.out _ _ (HSa.out _) (fun _ => ?_)
            clear hK K
            refine wpAnyH_ready (rs := [0]) (by kernel_rfl) (by simp) ?_
            refine AllReadyH.cons rfl (fun K hK => ?_) AllReadyH.nil
            go_simp
            refine hK.out _ _ (HSa.out _) (fun _ => ?_)
            clear hK K
            exact hG
          clear m0 m0a
          refine wpAnyH_ready (rs := [10]) (by kernel_rfl) (by simp) ?_
          refine AllReadyH.cons rfl (fun K hK => ?_) AllReadyH.nil
          have hown := HAll.out.2.2.2.2.2.2.2.2.2
          rw [← HAll.out.1] at hown
          obtain ⟨ip, hj, hy0, hy1, hy2⟩ := info_parts Tryz.infoPair
          refine step_append_lies _ ?_ (.tmp 29) (.tmp 38) 56 ?_ w.heap.size 101 ip (.agg #[.string ⟨#[]⟩, .string ⟨#[]⟩]) 2 32 Tryz.underlying56 hj hy0 hy1 hy2 ?_ ?_ (.slice xr lr yr) lr (prs (L0 ++ (pairsN nd).take i)) ?_ (hown.alloc _) ⟨wd.heap.size, 0, none⟩ 1 1 [.string xk, .string y] ?_ ?_ (pair_cellsW wd _ rfl _ _ _) ?_ ?_ ?_ ?_ ?_ _ rfl ?_
          · exact rfl
          · exact rfl
          · exact rfl
          · decide
          · exact rfl
          · exact rfl
          · exact rfl
          · intro u hu; simp at hu; rcases hu with rfl | rfl <;> rfl
          · decide
          · unfold maxLen; omega
          · omega
          · have := (HAll.out.2.2.2.2.2.1 _ (HAll.out.2.2.2.2.1 _ (Or.inl rfl))).2; simp; omega
          intro b6 d6 wB hownB hgB hbB hlB
          obtain ⟨⟨kB, gB, fB⟩, hNew⟩ := ap_push HAll.out.1 HAll.out.2.1 HAll.out.2.2.1 HAll.out.2.2.2.1 HAll.out.2.2.2.2.1 HAll.out.2.2.2.2.2.1 HAll.out.2.2.2.2.2.2.1 HAll.out.2.2.2.2.2.2.2.1 HAll.out.2.2.2.2.2.2.2.2.1 HAll.out.2.2.2.2.2.2.2.2.2 hgB hownB (by simpa using hbB)
          rw [List.append_assoc, HStep.out] at hNew
          have HNew := hide hNew
          have hSB := HSw.out wB kB gB
          have cB : wB.cell? ⟨w.heap.size + 1 + 1 + 1 + 1, 0, none⟩ = some (.slice xr lr yr) := (cell_at fB 0).1
          have zB : wB.frozen? ⟨w.heap.size + 1 + 1 + 1 + 1, 0, none⟩ = false := (cell_at fB 0).2
          refine hK.out (Act.put _ (some 39) _) _ hSB (fun _ => ?_)
          clear hK K hownB hgB hbB hlB hNew kB gB fB hown
          simp only [Act.put, List.setIfInBounds_toArray, List.set_cons_zero, List.set_cons_succ]
          refine wpAnyH_ready (rs := [11]) (by kernel_rfl) (by simp) ?_
          refine AllReadyH.cons rfl (fun K hK => ?_) AllReadyH.nil
          go_simp
          refine hK.out _ _ (HSw.out _ HNew.out.1 HNew.out.2.1) (fun _ => ?_)
          clear hK K cB zB hSB
          refine wpAnyH_done (by kernel_rfl) ?_ _
          gi_wp2_with fail
          gi_roundg (gk - 1)
          case measure => have := HQi.out; omega
          case rel => exact ⟨i + 1, by omega, by have := HQi.out; omega, by go_num, HNew⟩
        · obtain rfl : i = lv := by omega
          gi_wp2_with fail
          obtain ⟨hk, -, C1, vr, hsub, hap, hbd, haps⟩ := HP.out
          refine ⟨C1, hk, hsub, HPre.out, vr, hap, hbd, ?_⟩
          rw [HEnd.out]
          rw [List.take_of_length_le (by rw [pairsN_len]; have := HLn.out.2.1; omega)] at haps
          exact haps
open Go.RowKit
theorem all_len (ps : List ByteArray) (ls : List (Int × ByteArray)) (root : Int) : (allI (fun q => rdN (readD ps ls q)) root).1.length ≤ 100000 := by
  unfold allI
  split
  · show (pairsV _).length ≤ _
    have hv : ∀ v ∈ (seenI (fun q => rdN (readD ps ls q)) root).1, v.nd.vs.length ≤ 4 ∧ True := fun v hv => by
      unfold seenI at hv
      split at hv
      · cases hv
      · have h := down_vis (fun q => rdN (readD ps ls q)) 8 root [] [] v hv
        have h2 : (rdN (readD ps ls v.page)).1 = v.nd := by rw [show rdN (readD ps ls v.page) = (v.nd, true) from h]
        have := rdN_right2 ps ls v.page (by show (rdN (readD ps ls v.page)).2 = true; rw [show rdN (readD ps ls v.page) = (v.nd, true) from h])
        rw [← h2]
        exact ⟨(ok_cnt this).2.1, trivial⟩
    have h1 := pairsV_len (fun v h => (hv v h).1)
    have h2 : (seenI (fun q => rdN (readD ps ls q)) root).1.length ≤ 22000 := by
      unfold seenI
      split
      · exact Nat.zero_le _
      · exact Nat.le_trans (down_cnt _ (fun p hp => (ok_cnt (rdN_right2 ps ls p hp)).2.2) 8 root [] []) cntK8A
    omega
  · exact Nat.zero_le _
open Go.RowKit
def toldB (r : List (ByteArray × ByteArray) × Bool) (L : List (ByteArray × ByteArray)) : Bool := r.2 && decide (r.1 = L)
def WrPt (w : World) (X : Array Value) (x : Wrl) : Prop := ∃ p1 q1 p2 q2 p6 q6 p7 q7 vm vn, X[0]? = some (.slice p1 x.s.ps.length q1) ∧ X[1]? = some (.slice p2 x.s.ls.length q2) ∧ X[3]? = some (.int .i64 x.s.m.root) ∧ X[11]? = some (.slice p6 x.s.tk.ps.length q6) ∧ X[12]? = some (.slice p7 x.s.tk.ls.length q7) ∧ X[17]? = some (.int .i64 x.s.tr) ∧ X[18]? = some (.bool x.s.wr) ∧ X[19]? = some (.bool x.s.fl) ∧ X[20]? = some vm ∧ X[21]? = some vn ∧
  DiskAt w (.agg #[.slice p1 x.s.ps.length q1, .slice p2 x.s.ls.length q2]) x.s.ps x.s.ls ∧ DiskAt w (.agg #[.slice p6 x.s.tk.ps.length q6, .slice p7 x.s.tk.ls.length q7]) x.s.tk.ps x.s.tk.ls ∧ RowAt w 2 vm x.md.length (prs x.md) ∧ RowAt w 2 vn x.nx.length (prs x.nx)
def WrBl (w : World) (X : Array Value) : Prop := ∀ i j, (i = 0 ∧ j = 1 ∨ i = 11 ∧ j = 12) → ∀ u v, X[i]? = some u → X[j]? = some v → ∀ k, diskBlocks (.agg #[u, v]) k → k < w.heap.size
theorem wrPt_below {w w' : World} {X : Array Value} {x : Wrl} (h : WrPt w X x) (hb : Below w.heap.size w w') : WrPt w' X x := by
  obtain ⟨p1, q1, p2, q2, p6, q6, p7, q7, vm, vn, e0, e1, e3, e11, e12, e17, e18, e19, e20, e21, h1, h2, h3, h4⟩ := h
  exact ⟨p1, q1, p2, q2, p6, q6, p7, q7, vm, vn, e0, e1, e3, e11, e12, e17, e18, e19, e20, e21, disk_below h1 hb, disk_below h2 hb, row_below h3 hb, row_below h4 hb⟩
theorem disk_two {w : World} {a b : Value} {ps : List ByteArray} {ls : List (Int × ByteArray)} (h : DiskAt w (.agg #[a, b]) ps ls) : (∃ p q, a = .slice p ps.length q) ∧ ∃ p q, b = .slice p ls.length q := by
  obtain ⟨x, y, e, h1, h2⟩ := h
  simp only [Value.agg.injEq, Array.mk.injEq, List.cons.injEq, and_true] at e
  obtain ⟨rfl, rfl⟩ := e
  exact ⟨row_slice h1, row_slice h2⟩
theorem work_disk {w : World} {a b c d e f : Value} {k : Wk} (h : WorkAt w (.agg #[a, b, c, d, e, f]) k) : DiskAt w (.agg #[a, b]) k.ps k.ls := by
  obtain ⟨vp, vl, vu, vg, vf, e1, h1, -⟩ := h
  obtain ⟨rfl, rfl, -⟩ := agg6 e1
  exact h1
theorem wr_pt {w : World} {v : Value} {x : Wrl} (h : WrAt w v x) : ∃ X, v = .agg X ∧ X.size = 25 ∧ WrPt w X x := by
  obtain ⟨cs, vm, vn, vs, vc, vt, rfl, hc, ⟨vp, vl, vf, vR, vr, up, ul, uu, ug, uf, e, h1, h2, h3, ⟨y, x1, x2, x3, x4, x5, e5, h5, h6⟩⟩, r1, r2, -⟩ := h
  injection e with e
  subst e
  simp only [Value.agg.injEq, Array.mk.injEq, List.cons.injEq, and_true] at e5
  obtain ⟨-, -, -, rfl, rfl, rfl, -, rfl, rfl, rfl, -⟩ := e5
  have h7 := work_disk h6
  obtain ⟨⟨p1, q1, rfl⟩, p2, q2, rfl⟩ := disk_two h1
  obtain ⟨⟨p6, q6, rfl⟩, p7, q7, rfl⟩ := disk_two h7
  exact ⟨_, rfl, rfl, p1, q1, p2, q2, p6, q6, p7, q7, vm, vn, rfl, rfl, rfl, rfl, rfl, rfl, rfl, rfl, rfl, rfl, h1, h7, r1, r2⟩
theorem wr_own {w : World} {B : Nat} {v : Value} {x : Wrl} (h : WrOwn w B v x) : ∃ X, v = .agg X ∧ X.size = 25 ∧ X.toList.all (·.oneCell') = true ∧ WrPt w X x ∧ WrBl w X := by
  have ha := wr_of_own h
  obtain ⟨ds, L, p1, p2, p3, p4, p5, q1, q2, q3, q4, q5, m, rfl, hd, ht, hs⟩ := h
  obtain ⟨X, e, hX, hp⟩ := wr_pt ha
  injection e with e
  subst e
  obtain ⟨ds', e', -, ho⟩ := things_arr ht
  injection e' with e'
  subst e'
  refine ⟨_, rfl, hX, wr_one ds ho _ _ _ _ _ _ _ _ _ _ _ _ _ _ _, hp, ?_⟩
  obtain ⟨a1, b1, a2, b2, a3, b3, a4, b4, a5, b5, a6, b6, a7, b7, a8, b8, a9, b9, a10, b10, l1, l2, us, hu, e, rfl⟩ := ht
  injection e with e
  subst e
  have hL := sep_unpack (show Sep B w (packA B _ :: _) from hs)
  rintro i j (⟨rfl, rfl⟩ | ⟨rfl, rfl⟩) u v hu hv k hk
  · have e1 : u = _ := (Option.some.inj hu).symm
    have e2 : v = _ := (Option.some.inj hv).symm
    subst e1 e2
    exact (sep_lt hL 0 rfl k hk).2
  · have e1 : u = _ := (Option.some.inj hu).symm
    have e2 : v = _ := (Option.some.inj hv).symm
    subst e1 e2
    exact (sep_lt hL 4 rfl k ⟨_, _, _, _, _, _, rfl, Or.inl hk⟩).2
theorem size_small {x : Wrl} (h : x.small) : (x.s.ps.length ≤ 1048576 ∧ x.s.ls.length ≤ 1048576 ∧ (∀ t ∈ x.s.ps, t.size ≤ 1048576) ∧ ∀ p ∈ x.s.ls, p.2.size ≤ 1048576) ∧ (x.s.tk.ps.length ≤ 1048576 ∧ x.s.tk.ls.length ≤ 1048576 ∧ (∀ t ∈ x.s.tk.ps, t.size ≤ 1048576) ∧ ∀ p ∈ x.s.tk.ls, p.2.size ≤ 1048576) := by
  have hk := bulkW_in h.1.2.2.2.2
  exact ⟨⟨h.1.1.1, h.1.1.2.2.1, h.1.1.2.1, h.1.1.2.2.2⟩, hk.1, hk.2.2.1, hk.2.1, hk.2.2.2.1⟩
theorem pBulk_len {L : List (ByteArray × ByteArray)} {m : Nat} (h : pBulk L ≤ m) : L.length ≤ m := by
  unfold pBulk at h
  omega
theorem bulkWr_in {x : Wrl} (h : x.bulk ≤ 1048576) : x.small := by
  unfold Wrl.bulk at h
  have e := bulkS_eq x.td
  have hs := bulkSn_in (l := x.ss) (m := 1048576) (by omega)
  exact ⟨bulkSt_in (by omega), pBulk_len (by omega), pBulk_len (by omega), hs.1, fun f hf => pBulk_len (hs.2 f hf), by omega, by omega⟩
end Go.Proofs.YtdbpbhemnnffeaaGreatDoor
