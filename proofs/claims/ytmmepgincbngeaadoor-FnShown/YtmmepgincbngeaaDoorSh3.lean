/-
  Facts and contracts that the law's own text rests on, by their texts' names: SepApp, SepWork, Draw, Draw2, NodeGrow, SepNode, SpecEvent, GiveVar, FreeRow, Meta, Plain20, Sum, ShelfClone, Clone, Seal, SpecFormat.
-/
import Derived.Deep.AppendLies
import Derived.Deep.RegionHeld
import Derived.Test.YtmmepgincbngeaaDoorSh2
import Derived.Test.YtmmepgincbngeaaDoorSh1
import Derived.BigQuiet
import Derived.Deep.QuietTactic
import Derived.Laws.BitsAllLaws
import Derived.Laws.OwnMore
import Derived.Laws.Pointers
import Derived.Laws.Shifts
import Derived.Outline
import Derived.OwnWalk
import Derived.WalkKit
import Derived.WalkSmall
import Derived.WalkSpells
import Derived.Test.YtmmepgincbngeaaDoorProg
import Derived.Deep.LoopGhost
import Derived.Deep.Cut
import Derived.Maps.AppendAt
import Derived.Below
import Derived.Shelf.LaysM
import Derived.Shelf.Strconv.Clone
import Derived.Deep.RegionHeld3
import Derived.Laws.Concat
namespace Go.Proofs.YtmmepgincbngeaaDoor
open Go.RowKit
theorem new_cells (W : World) (cs : Array Value) (T : TypeId) : ∀ (j : Nat) (u : Value), cs.toList[j]? = some u → (W.alloc (Obj.cells cs T)).cell? ((⟨W.heap.size, 0, none⟩ : Addr).add j) = some u := by
  intro j u hj
  have h := (cell_at (heap_alloc_new W (Obj.cells cs T)) j).1
  rw [Addr.add_lit, Nat.zero_add, h, ← Array.getElem?_toList]
  exact hj
theorem app_sep {B : Nat} {W W' : World} {l : List Ast} (h : Sep B W l) (i : Nat) {B' e sz n n' : Nat} {v : Value} {xs xs' : List Value} (hi : l[i]? = some (rowA B' e sz v n xs)) (hBB : B ≤ B') (hBW : B ≤ W.heap.size) {o : Obj} (hgr : (W.alloc o).grownBy W' v.ownBlock) {b c : Nat} (hown : W'.ownsRow B' e sz (.slice (some ⟨b, 0, none⟩) n' c) n' xs') (hb : v.ownBlock = some b ∨ b = W.heap.size + 1) :
    Sep B W' (l.set i (rowA B' e sz (.slice (some ⟨b, 0, none⟩) n' c) n' xs')) ∧ Below B W W' := by
  have hb0 : Below W.heap.size W (W.alloc o) := (Below.refl _ _).alloc (Nat.le_refl _) o
  exact ⟨sep_grow h hb0 i hi hgr hown (hb.imp id (fun e => by omega)) hBW, grown_below hb0 hgr (sep_get h i hi) hBB hBW⟩
theorem wpList_sep1 {P : Program} {ops : Array Oper} {rest : List Oper} {o : Oper} {a : Act} {Q : Exit → Act → World → Prop} {B : Nat} {W : World} {l : List Ast} (h : Sep B W l) (i : Nat) {B' e sz n : Nat} {v : Value} {xs : List Value} (hi : l[i]? = some (rowA B' e sz v n xs)) (hBB : B ≤ B') (hBW : B ≤ W.heap.size) (hBW' : B' ≤ W.heap.size)
    (hgd : o.guard = none) (s x : Operand) (t : TypeId) (ho : o.op = .call { callee := .builtin .append, args := #[s, x], argTypes := #[t, t] }) (inf : TypeInfo) (z : Value) (bytes : Nat) (ht : P.underlying t = some (.slice e)) (hinf : P.info? e = some inf) (hz : inf.zero = some z)
    (hsize : inf.size = sz) (hby : inf.bytes = bytes) (hzs : z.cells.size = sz) (hsz : 0 < sz) (hs : a.eval s = v) (news : Array Value) {H : Nat} (hH : H = W.heap.size) (hx : a.eval x = .slice (some ⟨H, 0, none⟩) 1 1) (hl : news.size = sz) (h1 : ∀ u ∈ news.toList, u.oneCell' = true) (h63 : n + 1 ≤ maxLen) (hbytes : (n + 1) * bytes ≤ 140737488355328)
    (hK : ∀ b c w', Sep B w' (l.set i (rowA B' e sz (.slice (some ⟨b, 0, none⟩) (n + 1) c) (n + 1) (xs ++ news.toList))) → Below B W w' → wpList P ops Q rest (a.put o.dst (.slice (some ⟨b, 0, none⟩) (n + 1) c)) w') :
    wpList P ops Q (o :: rest) a (W.alloc (Obj.cells news e)) :=
  wpList_append_lies _ hgd s x t ho B' e inf z sz bytes ht hinf hz hsize hby hzs hsz v n xs hs ((sep_get h i hi : W.ownsRow B' e sz v n xs).alloc _) ⟨H, 0, none⟩ 1 1 news.toList hx (by rw [Array.length_toList, hl, Nat.one_mul]) (by rw [hH]; exact new_cells W news e) h1 (by decide) h63 hbytes (by simp; omega) (W.heap.size + 1) (by simp)
    (fun b c w' q1 q2 q3 _ => by
      obtain ⟨k1, k2⟩ := app_sep h i hi hBB hBW q2 q1 q3
      exact hK b c w' k1 k2)
open Go.RowKit
def diskA (B : Nat) (v : Value) (ps : List ByteArray) (ls : List (Int × ByteArray)) : Ast := ⟨diskBlocks v, fun W => DiskOwn W B v ps ls, fun W W' h hk => by
  obtain ⟨vp, vl, rfl, h1, h2⟩ := h
  exact ⟨vp, vl, rfl, (rowA B 9 1 vp ps.length (strs ps)).loc W W' h1 (fun k e => hk k ⟨_, _, rfl, Or.inl e⟩), (rowA B 103 2 vl ls.length (puts ls)).loc W W' h2 (fun k e => hk k ⟨_, _, rfl, Or.inr e⟩)⟩⟩
open Go.RowKit
def CodeIn (w : World) (B : Nat) (a : Option Addr) (len : Nat) : Prop :=
  len ≤ 1048576 ∧ (len = 0 ∨ ∃ b off, a = some ⟨b, off, none⟩ ∧ b < B ∧ ∀ j, j < len → ∃ z : Nat, z < 256 ∧ w.cell? ⟨b, off + j, none⟩ = some (.int .u8 (z : Int)))
def CurAt (w : World) (g : Nat) (a : Option Addr) (len cap : Nat) : Prop :=
  ∃ (i : Nat) (h : Int), i ≤ len ∧ w.heap[g]? = some (.cells #[.slice a len cap, .int .i64 (i : Int), .int .i64 h] 74 (0, 0))
theorem codeIn_of {W : World} {x : Addr} {len cap : Nat} {zs : List Int} (hl : len ≤ cap) (hz : zs.length = cap) (hcell : ∀ i, i < zs.length → W.cell? (x.add i) = some (.int .u8 (zs.getD i 0))) (hwz : ∀ n ∈ zs, (Lit.int .u8 n).wf = true) :
    1048576 < len ∨ CodeIn W W.heap.size (some x) len := by
  by_cases hbig : 1048576 < len
  · exact Or.inl hbig
  · refine Or.inr ⟨by omega, ?_⟩
    by_cases h0 : len = 0
    · exact Or.inl h0
    · obtain ⟨b, off, spot⟩ := x
      have hc := hcell 0 (by omega)
      obtain rfl : spot = none := by simpa [Addr.add] using World.cell?_spot hc
      have hb : b < W.heap.size := World.block_lt_of_cell? W _ (by simpa [Addr.add] using hc : W.cell? ⟨b, off, none⟩ = _)
      refine Or.inr ⟨b, off, rfl, hb, fun j hj => ?_⟩
      have hj' : j < zs.length := by omega
      have hm : zs.getD j 0 ∈ zs := by rw [List.getD, List.getElem?_eq_getElem hj']; exact List.getElem_mem hj'
      have hw := hwz _ hm
      have hbd : 0 ≤ zs.getD j 0 ∧ zs.getD j 0 ≤ 255 := by simpa [Lit.wf, IntKind.min, IntKind.max, IntKind.signed, IntKind.bits] using hw
      refine ⟨(zs.getD j 0).toNat, by omega, ?_⟩
      have hcj := hcell j hj'
      rw [Addr.add_lit] at hcj
      rw [Int.toNat_of_nonneg hbd.1]
      exact hcj
theorem and255 (z : Int) : 0 ≤ bits BinOp.and IntKind.i64 z 255 ∧ bits BinOp.and IntKind.i64 z 255 ≤ 255 := by
  have e : bits BinOp.and IntKind.i64 z 255 = IntKind.i64.wrap ((BitVec.ofInt 64 z &&& BitVec.ofInt 64 255).toNat : Int) := rfl
  have h : (BitVec.ofInt 64 z &&& BitVec.ofInt 64 255).toNat ≤ 255 := by
    rw [BitVec.toNat_and]
    exact Nat.le_trans Nat.and_le_right (by decide)
  rw [e, IntWalk.i64_in _ ⟨by omega, by omega⟩]
  omega
theorem and255_nat (z : Int) : ∃ x : Nat, x < 256 ∧ bits BinOp.and IntKind.i64 z 255 = (x : Int) := by
  have := and255 z
  exact ⟨(bits BinOp.and IntKind.i64 z 255).toNat, by omega, by omega⟩
theorem cur_cells {w : World} {g : Nat} {cs : Array Value} (h : w.heap[g]? = some (.cells cs 74 (0, 0))) (j : Nat) : w.cell? ⟨g, j, none⟩ = cs[j]? ∧ w.frozen? ⟨g, j, none⟩ = false :=
  ⟨cell_of_row w g j cs 74 (0, 0) h, frozen_of_row w g j cs 74 h⟩
theorem grown_setCell (w : World) (g j : Nat) (u : Value) : w.grownBy (w.setCell ⟨g, j, none⟩ u) (some g) :=
  ⟨rfl, rfl, rfl, by simp, fun k _ hk => heap_setCell_other w ⟨g, j, none⟩ k u (fun e => hk (by simp [e]))⟩
theorem grown_trans {a b c : World} {r : Option Nat} (h : a.grownBy b r) (k : b.grownBy c r) : a.grownBy c r :=
  ⟨k.os.trans h.os, k.tape.trans h.tape, k.output.trans h.output, Nat.le_trans h.size k.size, fun j hj hne => (k.block j (Nat.lt_of_lt_of_le hj h.size) hne).trans (h.block j hj hne)⟩
theorem grown_drewN {a b : World} {r : Option Nat} (h : a.grownBy b r) (n : Nat) : a.grownBy (b.drewN n) r := grown_trans h ⟨rfl, rfl, rfl, Nat.le_refl _, fun _ _ _ => rfl⟩
set_option maxHeartbeats 2000000 in
set_option maxRecDepth 100000 in
theorem l01Byte_any (g B : Nat) (a : Option Addr) (len cap : Nat) (w : World) (hc : CurAt w g a len cap) (hd : CodeIn w B a len) (hB : B ≤ g) :
    Calls Tryd.prog 47 #[.pointer (some ⟨g, 0, none⟩)] w fun e w' => ∃ x : Nat, x < 256 ∧ e = .returned (.int .i64 (x : Int)) ∧ CurAt w' g a len cap ∧ w.grownBy w' (some g) := by
  obtain ⟨i, h, hi, hblk⟩ := hc
  have c0 : w.cell? ⟨g, 0, none⟩ = some (.slice a len cap) := (cur_cells hblk 0).1
  have c1 : w.cell? ⟨g, 1, none⟩ = some (.int .i64 (i : Int)) := (cur_cells hblk 1).1
  have c2 : w.cell? ⟨g, 2, none⟩ = some (.int .i64 h) := (cur_cells hblk 2).1
  have f1 := (cur_cells hblk 1).2
  have f2 := (cur_cells hblk 2).2
  have HBlk := hide hblk
  have HD := hide hd
  clear hblk hd
  have hlen : len ≤ 1048576 := HD.out.1
  by_cases hlt : i < len
  · rcases HD.out.2 with h0 | ⟨b, off, rfl, hb, hz⟩
    · omega
    · obtain ⟨z, hz256, hzc⟩ := hz i hlt
      have hne : b ≠ g := by omega
      have hcode : ∀ u, (w.setCell ⟨g, 2, none⟩ u).cell? ⟨b, off + i, none⟩ = some (.int .u8 (z : Int)) := fun u => by
        rw [World.cell?_of_block (heap_setCell_other w ⟨g, 2, none⟩ b u hne)]; exact hzc
      have HN := hide hne
      clear hz hzc hne
      have hi0 : (0 : Int) ≤ (i : Int) := by omega
      have hi1 : (i : Int) < (len : Int) := by omega
      have hw1 := (wrap64_small ((z : Int)) (by omega) (by omega))
      go_enter Tryd.func47, Tryd.ntmps47
      go_wp2
      go_quiet (fail)
      go_wp2
      go_quiet (fail)
      go_wp2
      go_quiet (fail)
      go_wp2
      go_ret
      obtain ⟨x, hx, e⟩ := and255_nat (wrap64 (bits BinOp.and IntKind.i64 (bits BinOp.xor IntKind.i64 (wrap64 (wrap64 (h * 6364136223846793005) + 1442695040888963407) / 8589934592) (wrap64 (wrap64 (h * 6364136223846793005) + 1442695040888963407) / 35184372088832)) 255 + (z : Int)))
      refine ⟨x, hx, by rw [← e]; rfl, ⟨i + 1, wrap64 (wrap64 (h * 6364136223846793005) + 1442695040888963407), by omega, ?_⟩, ?_⟩
      · exact heap_setCell_same (w.setCell ⟨g, 2, none⟩ _) g 1 _ _ _ (heap_setCell_same w g 2 _ _ _ HBlk.out)
      · exact grown_trans (grown_drewN (grown_setCell w g 2 _) _) (grown_setCell _ g 1 _)
  · have hnl : decide ((i : Int) < (len : Int)) = false := by simp; omega
    go_enter Tryd.func47, Tryd.ntmps47
    go_wp2
    go_quiet (fail)
    go_wp2
    go_quiet (fail)
    go_wp2
    go_ret
    obtain ⟨x, hx, e⟩ := and255_nat (bits BinOp.xor IntKind.i64 (wrap64 (wrap64 (h * 6364136223846793005) + 1442695040888963407) / 8589934592) (wrap64 (wrap64 (h * 6364136223846793005) + 1442695040888963407) / 35184372088832))
    refine ⟨x, hx, by rw [← e]; rfl, ⟨i, wrap64 (wrap64 (h * 6364136223846793005) + 1442695040888963407), hi, ?_⟩, ?_⟩
    · exact heap_setCell_same w g 2 _ _ _ HBlk.out
    · exact grown_drewN (grown_drewN (grown_setCell w g 2 _) _) _
def Drawn (w w' : World) (g B : Nat) (a : Option Addr) (len cap : Nat) : Prop := CurAt w' g a len cap ∧ w.grownBy w' (some g) ∧ CodeIn w' B a len
theorem code_grown {w w' : World} {g B : Nat} {a : Option Addr} {len : Nat} (h : CodeIn w B a len) (hg : w.grownBy w' (some g)) (hB : B ≤ g) (hs : g < w.heap.size) : CodeIn w' B a len := by
  refine ⟨h.1, ?_⟩
  rcases h.2 with h0 | ⟨b, off, e, hb, hz⟩
  · exact Or.inl h0
  · refine Or.inr ⟨b, off, e, hb, fun j hj => ?_⟩
    obtain ⟨z, h1, h2⟩ := hz j hj
    exact ⟨z, h1, by rw [World.cell?_of_block (hg.block b (by omega) (by simp; omega))]; exact h2⟩
theorem cur_lt {w : World} {g : Nat} {a : Option Addr} {len cap : Nat} (h : CurAt w g a len cap) : g < w.heap.size := by
  obtain ⟨i, x, _, hb⟩ := h
  exact (Array.getElem?_eq_some_iff.1 hb).1
theorem byte_drawn (g B : Nat) (a : Option Addr) (len cap : Nat) (w : World) (hc : CurAt w g a len cap) (hd : CodeIn w B a len) (hB : B ≤ g) :
    Calls Tryd.prog 47 #[.pointer (some ⟨g, 0, none⟩)] w fun e w' => ∃ x : Nat, x < 256 ∧ e = .returned (.int .i64 (x : Int)) ∧ Drawn w w' g B a len cap := by
  refine (l01Byte_any g B a len cap w hc hd hB).mono ?_
  rintro e w1 ⟨x, hx, rfl, h1, h2⟩
  exact ⟨x, hx, rfl, h1, h2, code_grown hd h2 hB (cur_lt hc)⟩
theorem drawn_trans {a b c : World} {g B : Nat} {ad : Option Addr} {len cap : Nat} (h : Drawn a b g B ad len cap) (k : Drawn b c g B ad len cap) : Drawn a c g B ad len cap := ⟨k.1, grown_trans h.2.1 k.2.1, k.2.2⟩
set_option maxHeartbeats 1000000 in
theorem l01Below_any (g B : Nat) (a : Option Addr) (len cap n : Nat) (hn : 0 < n) (hn1 : n ≤ 4294967296) (w : World) (hc : CurAt w g a len cap) (hd : CodeIn w B a len) (hB : B ≤ g) :
    Calls Tryd.prog 31 #[.pointer (some ⟨g, 0, none⟩), .int .i64 (n : Int)] w fun e w' => ∃ x : Nat, x < n ∧ e = .returned (.int .i64 (x : Int)) ∧ Drawn w w' g B a len cap := by
  have HD := hide hd
  have HC := hide hc
  clear hd hc
  by_cases h256 : n ≤ 256
  · go_enter Tryd.func31, Tryd.ntmps31
    go_wp2_with fail
    refine (byte_drawn g B a len cap _ HC.out HD.out hB).mono ?_
    rintro e w1 ⟨x, hx, rfl, h1⟩
    have H1 := hide h1
    have hnz : ((n : Int) == 0) = false := by rw [beq_eq_false_iff_ne]; omega
    clear h1
    go_wp2_with fail
    go_ret
    exact ⟨x % n, Nat.mod_lt _ hn, by simp, H1.out⟩
  · go_enter Tryd.func31, Tryd.ntmps31
    go_wp2_with fail
    refine (byte_drawn g B a len cap _ HC.out HD.out hB).mono ?_
    rintro e w1 ⟨x1, hx1, rfl, h1⟩
    have H1 := hide h1
    clear h1
    go_wp2_with fail
    refine (byte_drawn g B a len cap _ H1.out.1 H1.out.2.2 hB).mono ?_
    rintro e w2 ⟨x2, hx2, rfl, h2⟩
    have H2 := hide h2
    clear h2
    go_wp2_with fail
    refine (byte_drawn g B a len cap _ H2.out.1 H2.out.2.2 hB).mono ?_
    rintro e w3 ⟨x3, hx3, rfl, h3⟩
    have H3 := hide h3
    clear h3
    go_wp2_with fail
    refine (byte_drawn g B a len cap _ H3.out.1 H3.out.2.2 hB).mono ?_
    rintro e w4 ⟨x4, hx4, rfl, h4⟩
    have H4 := hide h4
    clear h4
    have hnz : ((n : Int) == 0) = false := by rw [beq_eq_false_iff_ne]; omega
    go_wp2_with fail
    go_ret
    exact ⟨(x1 * 16777216 + x2 * 65536 + x3 * 256 + x4) % n, Nat.mod_lt _ hn, by simp, drawn_trans H1.out (drawn_trans H2.out (drawn_trans H3.out H4.out))⟩
open Go.RowKit
set_option maxHeartbeats 1000000 in
set_option maxRecDepth 100000 in
theorem l01New_any (a : Option Addr) (len cap : Nat) (w : World) (hd : CodeIn w w.heap.size a len) :
    Calls Tryd.prog 16 #[.slice a len cap] w fun e w' => e = .returned (.pointer (some ⟨w.heap.size, 0, none⟩)) ∧ CurAt w' w.heap.size a len cap ∧ CodeIn w' w.heap.size a len ∧ Below w.heap.size w w' := by
  have hlen := hd.1
  have HD := hide hd
  clear hd
  go_enter Tryd.func16, Tryd.ntmps16
  go_wp2
  go_loopg [3, 4] len (fun q hv iv wr => ∃ (k : Nat) (h : Int), k ≤ len ∧ hv = .int .i64 h ∧ iv = .int .i64 (k : Int) ∧ q + k = len ∧ w = wr)
  case atStart => exact ⟨0, _, Nat.zero_le _, rfl, rfl, rfl, rfl⟩
  case round =>
    obtain ⟨k, h, hk, rfl, rfl, hg, rfl⟩ := hrel
    have HG := hide hg
    clear hg
    by_cases hlt : k < len
    · by_cases h4 : k < 4000
      · rcases HD.out.2 with h0 | ⟨b, off, rfl, hb, hz⟩
        · omega
        · obtain ⟨z, hz256, hzc⟩ := hz k hlt
          clear hz
          have hi0 : (0 : Int) ≤ (k : Int) := by omega
          have hi1 : (k : Int) < (len : Int) := by omega
          go_wp2
          go_roundg (gk - 1)
          case measure => have := HG.out; omega
          case rel => exact ⟨k + 1, _, by omega, rfl, by go_num, by have := HG.out; omega, rfl⟩
      · have hn4 : decide ((k : Int) < 4000) = false := by simp; omega
        go_wp2
        go_ret
        exact ⟨rfl, ⟨0, h, Nat.zero_le _, heap_alloc_new w _⟩, ⟨HD.out.1, HD.out.2.imp id (fun ⟨b, off, e, hb, hz⟩ => ⟨b, off, e, hb, fun j hj => by obtain ⟨z, h1, h2⟩ := hz j hj; exact ⟨z, h1, by rw [World.cell?_of_block (Below.heap_alloc w _ b hb)]; exact h2⟩⟩)⟩, (Below.refl _ _).alloc (Nat.le_refl _) _⟩
    · have hnl : decide ((k : Int) < (len : Int)) = false := by simp; omega
      go_wp2
      go_ret
      exact ⟨rfl, ⟨0, h, Nat.zero_le _, heap_alloc_new w _⟩, ⟨HD.out.1, HD.out.2.imp id (fun ⟨b, off, e, hb, hz⟩ => ⟨b, off, e, hb, fun j hj => by obtain ⟨z, h1, h2⟩ := hz j hj; exact ⟨z, h1, by rw [World.cell?_of_block (Below.heap_alloc w _ b hb)]; exact h2⟩⟩)⟩, (Below.refl _ _).alloc (Nat.le_refl _) _⟩
theorem cur_grown {w w' : World} {g : Nat} {row : Option Nat} {a : Option Addr} {len cap : Nat} (h : CurAt w g a len cap) (hg : w.grownBy w' row) (hne : some g ≠ row) : CurAt w' g a len cap := by
  have hlt := cur_lt h
  obtain ⟨i, x, hi, hb⟩ := h
  exact ⟨i, x, hi, (hg.block g hlt hne).trans hb⟩
open Go.RowKit
theorem apart {u v : Value} (h : ∀ k, u.ownBlock = some k → v.ownBlock ≠ some k) : v.ownBlock = none ∨ v.ownBlock ≠ u.ownBlock := by
  cases hv : v.ownBlock with
  | none => exact Or.inl rfl
  | some k => exact Or.inr (fun e => h k e.symm hv)
open Go.RowKit
theorem rowat_drop {w : World} {b off n c c' : Nat} {xs : List Value} (h : RowAt w 1 (.slice (some ⟨b, off, none⟩) n c) n xs) (m : Nat) (hm : m ≤ n) : RowAt w 1 (.slice (some ⟨b, off + m, none⟩) (n - m) c') (n - m) (xs.drop m) := by
  obtain ⟨hl, a', cap, e, h⟩ := h
  injection e with e1
  subst e1
  refine ⟨by rw [List.length_drop]; omega, _, _, rfl, ?_⟩
  rcases h with h0 | ⟨b', off', e, hlt, hc⟩
  · exact Or.inl (by omega)
  · injection e with e
    injection e with e e'
    subst e e'
    exact Or.inr ⟨b, off + m, rfl, hlt, fun j hj => by rw [Nat.add_assoc, hc (m + j) (by omega), List.getElem?_drop]⟩
open Go.RowKit
def ba (l : List UInt8) : ByteArray := ⟨l.toArray⟩
theorem ba_toList (l : List UInt8) : (ba l).toList = l := by rw [ByteArray.toList_eq]; rfl
theorem ba_size (l : List UInt8) : (ba l).size = l.length := by simp [ba, ByteArray.size]
theorem bl_lit (l m : List UInt8) : ((ba l).toList == m) = decide (l = m) := by
  rw [ba_toList]
  by_cases h : l = m
  · rw [h]; simp
  · simp [h]
theorem ba_byt (l : List UInt8) (i : Nat) (h : i < l.length) : byt (ba l) i = (l[i]).toNat := by
  have hs : i < (ba l).size := by rw [ba_size]; exact h
  rw [byt, dif_pos hs]
  rfl
def EvRet (w w' : World) (r : Option Evt) (e : Ending) : Prop := (∃ (cs : Array Value) (b : Bool), e = .returned (.tuple #[.agg cs, .bool b]) ∧ cs.size = 7 ∧ cs.toList.all (·.oneCell') = true ∧ (match r with | none => b = false | some ev => b = true ∧ ∃ u, cs = (ev7 (ev, u)).toArray ∧ w'.ownsRow w.heap.size 4 1 u ev.left.length (bools ev.left))) ∧ Below w.heap.size w w'
theorem find_none (p : List (List UInt8)) (h : ∀ j, j < 10 → isKw p j = false) : evOf p = none := by
  rw [evOf, List.find?_eq_none.2 (fun x hx => by rw [h x (List.mem_range.1 hx)]; decide)]
  rfl
theorem dec_yes {l : List UInt8} (h : okD (ba l)) : decO l = some ((valD (ba l) (ba l).size : Nat) : Int) := by
  have h2 : okD ⟨l.toArray⟩ := h
  unfold decO
  rw [if_pos h2, ba_size]
  rfl
theorem dec_no {l : List UInt8} (h : ¬ okD (ba l)) : decO l = none := by
  have h2 : ¬ okD ⟨l.toArray⟩ := h
  unfold decO
  rw [if_neg h2]
theorem bits_dash {l : List UInt8} (h : l = [45]) : bitsO l = some [] := by rw [bitsO, if_pos h]
theorem bits_all {l : List UInt8} (h : l ≠ [45]) (ha : ∀ i, i < l.length → byt (ba l) i = 48 ∨ byt (ba l) i = 49) : bitsO l = some (l.map (· == 49)) := by
  rw [bitsO, if_neg h, if_pos]
  rw [List.all_eq_true]
  intro x hx
  obtain ⟨i, hi, rfl⟩ := List.getElem_of_mem hx
  have h1 := ha i hi
  rw [ba_byt l i hi] at h1
  rcases h1 with h1 | h1
  · have : l[i] = 48 := UInt8.toNat_inj.1 h1
    simp [this]
  · have : l[i] = 49 := UInt8.toNat_inj.1 h1
    simp [this]
theorem bits_no {l : List UInt8} (h : l ≠ [45]) (i : Nat) (hi : i < l.length) (h8 : byt (ba l) i ≠ 48) (h9 : byt (ba l) i ≠ 49) : bitsO l = none := by
  rw [bitsO, if_neg h, if_neg]
  rw [List.all_eq_true]
  intro ha
  have h1 := ha l[i] (List.getElem_mem hi)
  rw [ba_byt l i hi] at h8 h9
  rw [Bool.or_eq_true, beq_iff_eq, beq_iff_eq] at h1
  rcases h1 with h1 | h1
  · exact h8 (by rw [h1]; rfl)
  · exact h9 (by rw [h1]; rfl)
theorem bit_next (l : List UInt8) (i : Nat) (hi : i < l.length) : (l.take (i + 1)).map (· == 49) = (l.take i).map (· == (49 : UInt8)) ++ [((byt (ba l) i : Nat) : Int) == 49] := by
  rw [List.take_succ_eq_append_getElem hi, List.map_append, ba_byt l i hi]
  congr 1
  simp only [List.map_cons, List.map_nil, List.cons.injEq, and_true]
  by_cases h : l[i] = 49
  · rw [h]; rfl
  · have h2 : (l[i] == 49) = false := by simp [h]
    have h3 : ((l[i].toNat : Int) == 49) = false := by
      rw [beq_eq_false_iff_ne]
      intro e
      exact h (UInt8.toNat_inj.1 (by show l[i].toNat = 49; omega))
    rw [h2, h3]
theorem bools_snocE (l : List Bool) (b : Bool) : bools (l ++ [b]) = bools l ++ [.bool b] := by simp [bools]
open Go.RowKit
theorem s3 {W : World} {a0 b off : Nat} {d0 d1 d2 d3 d4 d5 x : Value} {t' : TypeId} (hb : W.heap[a0]? = some (Obj.cells #[d0, d1, d2, d3, d4, d5] t')) (hr : W.cell? ⟨b, off, none⟩ = some x) : W.cell? ⟨a0, 3, none⟩ = some d3 ∧ W.cell? ⟨b, off, none⟩ = some x := ⟨(cell_at hb 3).1, hr⟩
open Go.RowKit
def frs (l : List (Int × Value)) : List Value := l.flatMap fun p => [.int .i64 p.1, p.2]
theorem frs_cons (p : Int × Value) (l : List (Int × Value)) : frs (p :: l) = Value.int .i64 p.1 :: p.2 :: frs l := rfl
theorem frs_at (l : List (Int × Value)) : ∀ k p, l[k]? = some p → (frs l)[k * 2]? = some (.int .i64 p.1) ∧ (frs l)[k * 2 + 1]? = some p.2 := by
  induction l with
  | nil => intro k p h; simp at h
  | cons q l ih =>
    intro k p h
    rw [frs_cons]
    cases k with
    | zero => simp at h; subst h; exact ⟨rfl, rfl⟩
    | succ k =>
      have := ih k p (by simpa using h)
      rw [show (k + 1) * 2 = k * 2 + 1 + 1 from by omega]
      simpa using this
def FreesAt (w : World) (v : Value) (fs : List (Int × List Int)) : Prop :=
  ∃ l : List (Int × Value), l.length = fs.length ∧ RowAt w 2 v fs.length (frs l) ∧ ∀ (k : Nat) (p : Int × Value) (f : Int × List Int), l[k]? = some p → fs[k]? = some f → p.1 = f.1 ∧ RowAt w 1 p.2 f.2.length (ints f.2)
theorem frees_below {w w' : World} {v : Value} {fs : List (Int × List Int)} (h : FreesAt w v fs) (hb : Below w.heap.size w w') : FreesAt w' v fs := by
  obtain ⟨l, h1, h2, h3⟩ := h
  exact ⟨l, h1, row_below h2 hb, fun k p f hp hf => ⟨(h3 k p f hp hf).1, row_below (h3 k p f hp hf).2 hb⟩⟩
theorem frees_slice {w : World} {v : Value} {fs : List (Int × List Int)} (h : FreesAt w v fs) : ∃ a cap, v = .slice a fs.length cap := by
  obtain ⟨l, h1, h2, h3⟩ := h
  obtain ⟨-, a, cap, e, -⟩ := h2
  exact ⟨a, cap, e⟩
theorem frees_at {w : World} {a : Option Addr} {n cap : Nat} {fs : List (Int × List Int)} (h : FreesAt w (.slice a n cap) fs) {k : Nat} {tx : Int} {ps : List Int} (hk : fs[k]? = some (tx, ps)) :
    ∃ b off x c, a = some ⟨b, off, none⟩ ∧ b < w.heap.size ∧ w.cell? ⟨b, off + k * 2, none⟩ = some (.int .i64 tx) ∧ w.cell? ⟨b, off + k * 2 + 1, none⟩ = some (.slice x ps.length c) ∧ RowAt w 1 (.slice x ps.length c) ps.length (ints ps) := by
  obtain ⟨l, h1, h2, h3⟩ := h
  have hlt : k < fs.length := (List.getElem?_eq_some_iff.1 hk).1
  obtain ⟨p, hp⟩ : ∃ p, l[k]? = some p := ⟨_, List.getElem?_eq_getElem (by omega)⟩
  obtain ⟨e1, e2⟩ := h3 k p _ hp hk
  obtain ⟨-, a', cap', e, hr⟩ := h2
  injection e with e _ _
  subst e
  rcases hr with h0 | ⟨b, off, rfl, hb, hc⟩
  · omega
  · obtain ⟨x, c, hx⟩ : ∃ x c, p.2 = .slice x ps.length c := by obtain ⟨-, x, c, e, -⟩ := e2; exact ⟨x, c, e⟩
    rw [hx] at e2
    refine ⟨b, off, x, c, rfl, hb, ?_, ?_, e2⟩
    · rw [hc (k * 2) (by omega), (frs_at l k p hp).1, e1]
    · rw [Nat.add_assoc, hc (k * 2 + 1) (by omega), (frs_at l k p hp).2, hx]
theorem Tryd.free_int : (99 : Nat) ≠ 3 := by decide
open Go.RowKit
def MetaAt (w : World) (v : Value) (m : Mt) : Prop := ∃ vf, v = .agg #[.int .i64 m.tx, .int .i64 m.root, .int .i64 m.next, vf] ∧ FreesAt w vf m.fs
theorem meta_below {w w' : World} {v : Value} {m : Mt} (h : MetaAt w v m) (hb : Below w.heap.size w w') : MetaAt w' v m := by
  obtain ⟨vf, e, h⟩ := h
  exact ⟨vf, e, frees_below h hb⟩
def Mt.textO (m : Mt) : ByteArray := if m.good = true then m.text else ⟨#[]⟩
def Mt.pre (m : Mt) (k : Nat) : List Int := m.tx :: m.root :: m.next :: (m.fs.length : Int) :: freeNums (m.fs.take k)
theorem pre_zero (m : Mt) : m.pre 0 = [m.tx, m.root, m.next, (m.fs.length : Int)] := by simp [Mt.pre, freeNums]
theorem pre_end (m : Mt) : m.pre m.fs.length = m.nums := by simp [Mt.pre, Mt.nums]
theorem pre_next {m : Mt} {k : Nat} {ftx : Int} {ps : List Int} (h : m.fs[k]? = some (ftx, ps)) : m.pre (k + 1) = m.pre k ++ [ftx, (ps.length : Int)] ++ ps := by
  obtain ⟨hk, e⟩ := List.getElem?_eq_some_iff.1 h
  rw [Mt.pre, Mt.pre, List.take_succ_eq_append_getElem hk, freeNums_snoc, e]
  simp
theorem freeNums_take (fs : List (Int × List Int)) (k : Nat) : (freeNums (fs.take k)).length ≤ (freeNums fs).length := by
  conv => rhs; rw [← List.take_append_drop k fs, freeNums_append, List.length_append]
  omega
theorem pre_len {m : Mt} (h : m.ok = true) (k : Nat) : (m.pre k).length ≤ 844 := by
  have h1 := nums_len h
  have h2 := freeNums_take m.fs k
  rw [Mt.nums] at h1
  simp [Mt.pre] at h1 ⊢
  omega
theorem text_size (m : Mt) : m.text.size = (numsL m.nums).length + 4 := by
  rw [← ba_len, Mt.text]
  simp [sealL_length]
theorem text_seal (m : Mt) : (⟨(sealL (numsB m.nums).data.toList).toArray⟩ : ByteArray) = m.text := by rw [numsB_list]; rfl
theorem good_yes {m : Mt} (h : m.ok = true) (h2 : m.text.size ≤ 240) : m.good = true ∧ m.textO = m.text := by
  have : m.good = true := by rw [Mt.good, h, Bool.true_and, decide_eq_true_eq, ← text_size]; exact h2
  exact ⟨this, by rw [Mt.textO, if_pos this]⟩
theorem good_no {m : Mt} (h : m.ok = false ∨ 240 < m.text.size) : m.good = false ∧ m.textO = ⟨#[]⟩ := by
  have : m.good = false := by
    rcases h with h | h
    · rw [Mt.good, h, Bool.false_and]
    · rw [Mt.good, Bool.and_eq_false_iff, decide_eq_false_iff_not, ← text_size]; exact Or.inr (by omega)
  exact ⟨this, by rw [Mt.textO, if_neg (by rw [this]; decide)]⟩
theorem nums_of {m : Mt} (h : m.ok = true) {k : Nat} {ftx : Int} {ps : List Int} (hf : m.fs[k]? = some (ftx, ps)) : 0 ≤ ftx ∧ ftx ≤ 100000 ∧ ps.length ≤ 40 ∧ ∀ p ∈ ps, 0 ≤ p ∧ p ≤ 100000 := by
  obtain ⟨⟨h1, h2, h3, h4, h5, h6⟩, h7⟩ := ok_parts h
  obtain ⟨g1, g2, g3, g4, g5⟩ := h7 _ (List.mem_of_getElem? hf)
  exact ⟨by omega, by omega, g4, fun p hp => by have := g5 p hp; omega⟩
open Go.RowKit
def SumTab (w : World) : Prop := ∀ i : Nat, i < 16 → w.cell? ⟨2, i, none⟩ = some (.int .u32 ((tab16.getD i 0 : Nat) : Int))
theorem sumTab_below {w w' : World} (h : SumTab w) (hb : Below w.heap.size w w') : SumTab w' := by
  intro i hi
  have hc := h i hi
  have hlt : 2 < w.heap.size := World.block_lt_of_cell? w _ hc
  rw [World.cell?_of_block (hb.block _ hlt)]
  exact hc
theorem wrap32 (x : Int) (h0 : 0 ≤ x) (h1 : x < 4294967296) : IntKind.u32.wrap x = x := by
  simp [IntKind.wrap, IntKind.signed, IntKind.bits]; omega
theorem xor32 (a b : Nat) (ha : a < 4294967296) (hb : b < 4294967296) : bits BinOp.xor IntKind.u32 (a : Int) (b : Int) = ((a ^^^ b : Nat) : Int) := by
  have e : bits BinOp.xor IntKind.u32 (a : Int) (b : Int) = IntKind.u32.wrap ((BitVec.ofInt 32 (a : Int) ^^^ BitVec.ofInt 32 (b : Int)).toNat : Int) := rfl
  have hl := xor_lt32 a b ha hb
  have h : (BitVec.ofInt 32 (a : Int) ^^^ BitVec.ofInt 32 (b : Int)).toNat = a ^^^ b := by
    rw [BitVec.toNat_xor, BitVec.ofInt_natCast, BitVec.ofInt_natCast, BitVec.toNat_ofNat, BitVec.toNat_ofNat, Nat.mod_eq_of_lt (by omega), Nat.mod_eq_of_lt (by omega)]
  rw [e, h, wrap32 _ (by omega) (by omega)]
theorem and32_15 (a : Nat) (ha : a < 4294967296) : bits BinOp.and IntKind.u32 (a : Int) 15 = ((a % 16 : Nat) : Int) := by
  have e : bits BinOp.and IntKind.u32 (a : Int) 15 = IntKind.u32.wrap ((BitVec.ofInt 32 (a : Int) &&& BitVec.ofInt 32 15).toNat : Int) := rfl
  have h : (BitVec.ofInt 32 (a : Int) &&& BitVec.ofInt 32 15).toNat = a % 16 := by
    rw [BitVec.toNat_and, BitVec.ofInt_natCast, BitVec.toNat_ofNat, Nat.mod_eq_of_lt (by omega)]
    exact Nat.and_two_pow_sub_one_eq_mod a 4
  rw [e, h, wrap32 _ (by omega) (by omega)]
theorem tab16_lt (r : Nat) (h : r < 16) : tab16.getD r 0 < 4294967296 := by
  revert r
  decide
set_option maxHeartbeats 1000000 in
theorem after_any (c b : Nat) (hc : c < 4294967296) (hb : b < 256) (w : World) (hT : SumTab w) :
    Calls Tryd.prog 91 #[.int .u32 (c : Int), .int .u8 (b : Int)] w fun e w' => e = .returned (.int .u32 (sumB c b : Int)) ∧ w = w' := by
  obtain ⟨x, hx⟩ : ∃ x, x = c ^^^ b := ⟨_, rfl⟩
  have hxl : x < 4294967296 := by rw [hx]; exact xor_lt32 _ _ hc (by omega)
  obtain ⟨r, hr⟩ : ∃ r, r = x % 16 := ⟨_, rfl⟩
  obtain ⟨t, ht⟩ : ∃ t, t = tab16.getD r 0 := ⟨_, rfl⟩
  have htl : t < 4294967296 := by rw [ht]; exact tab16_lt r (by omega)
  obtain ⟨y, hy⟩ : ∃ y, y = half4 x := ⟨_, rfl⟩
  have hyl : y < 4294967296 := by rw [hy]; exact half4_lt x hxl
  obtain ⟨r2, hr2⟩ : ∃ r, r = y % 16 := ⟨_, rfl⟩
  obtain ⟨t2, ht2⟩ : ∃ t, t = tab16.getD r2 0 := ⟨_, rfl⟩
  have ht2l : t2 < 4294967296 := by rw [ht2]; exact tab16_lt r2 (by omega)
  have q1 : IntKind.u32.wrap (b : Int) = (b : Int) := wrap32 _ (by omega) (by omega)
  have q2 : bits BinOp.xor IntKind.u32 (c : Int) (b : Int) = (x : Int) := by rw [hx]; exact xor32 c b hc (by omega)
  have q3 : bits BinOp.and IntKind.u32 (x : Int) 15 = (r : Int) := by rw [hr]; exact and32_15 x hxl
  have q4 : w.cell? ⟨2, r, none⟩ = some (.int .u32 (t : Int)) := by rw [ht]; exact hT r (by omega)
  have q5 : bits BinOp.xor IntKind.u32 ((x : Int) / 16) (t : Int) = (y : Int) := by
    rw [show (x : Int) / 16 = ((x / 16 : Nat) : Int) by omega, xor32 _ _ (by omega) htl, hy, half4_eq, ht, hr]
  have q6 : bits BinOp.and IntKind.u32 (y : Int) 15 = (r2 : Int) := by rw [hr2]; exact and32_15 y hyl
  have q7 : w.cell? ⟨2, r2, none⟩ = some (.int .u32 (t2 : Int)) := by rw [ht2]; exact hT r2 (by omega)
  have q8 : bits BinOp.xor IntKind.u32 ((y : Int) / 16) (t2 : Int) = (sumB c b : Int) := by
    rw [show (y : Int) / 16 = ((y / 16 : Nat) : Int) by omega, xor32 _ _ (by omega) ht2l, ht2, hr2, ← half4_eq, hy, hx]; rfl
  have l1 : (0 : Int) ≤ (r : Int) := by omega
  have l2 : (r : Int) < 16 := by omega
  have l3 : (0 : Int) ≤ (r2 : Int) := by omega
  have l4 : (r2 : Int) < 16 := by omega
  obtain ⟨z, hz⟩ : ∃ z, z = sumB c b := ⟨_, rfl⟩
  rw [← hz] at q8 ⊢
  clear hx hr ht hy hr2 ht2 hz hT
  go_enter Tryd.func91, Tryd.ntmps91
  go_wp2
  go_ret
  exact ⟨rfl, rfl⟩
set_option maxHeartbeats 1000000 in
theorem implSumMore_any (c : Nat) (s : ByteArray) (hc : c < 4294967296) (hs : s.size ≤ 9223372036854775807) (w : World) (hT : SumTab w) :
    Calls Tryd.prog 90 #[.int .u32 (c : Int), .string s] w fun e w' => e = .returned (.int .u32 (sumL c s.data.toList : Int)) ∧ w = w' := by
  have HT := hide hT
  clear hT
  go_enter Tryd.func90, Tryd.ntmps90
  go_wp2
  go_loopg [5, 6] s.size (fun g cv iv wr => ∃ k x : Nat, k ≤ s.size ∧ iv = .int .i64 (k : Int) ∧ g + k = s.size ∧ cv = .int .u32 (x : Int) ∧ x < 4294967296 ∧ Hid (x = sumL c (s.data.toList.take k)) ∧ w = wr)
  case atStart => exact ⟨0, c, Nat.zero_le _, rfl, rfl, rfl, hc, hide rfl, rfl⟩
  case round =>
    obtain ⟨k, x, hk, rfl, hg, rfl, hx, HX, rfl⟩ := hrel
    have HG := hide hg
    clear hg
    by_cases hlt : k < s.size
    · obtain ⟨y, hy⟩ : ∃ y, y = byt s k := ⟨_, rfl⟩
      have hyb : y < 256 := by rw [hy]; exact byt_lt s k
      have hsj : s[k].toNat = y := by rw [hy]; exact byt_eq s k hlt
      have HY := hide hy
      clear hy
      have hk0 : (0 : Int) ≤ (k : Int) := by omega
      have hk1 : (k : Int) < (s.size : Int) := by omega
      go_wp2_with fail
      refine (after_any x y hx hyb _ HT.out).mono ?_
      rintro e w1 ⟨rfl, rfl⟩
      have hl := sumB_lt x y hx hyb
      have HN : Hid (sumB x y = sumL c (s.data.toList.take (k + 1))) := hide (by rw [take_byt s k hlt, sumL_append, ← HX.out, HY.out, sumL]; simp [toNat_ofNat8 _ (byt_lt s k)])
      go_wp2
      go_roundg (gk - 1)
      case measure => have := HG.out; omega
      case rel => exact ⟨k + 1, sumB x y, by omega, by go_num, by have := HG.out; omega, rfl, hl, HN, rfl⟩
    · have hk' : s.data.toList.take k = s.data.toList := List.take_of_length_le (by rw [Array.length_toList]; have : s.data.size = s.size := rfl; omega)
      rw [hk'] at HX
      go_wp2
      go_ret
      rw [← HX.out]
      exact ⟨rfl, rfl⟩
set_option maxHeartbeats 400000 in
theorem implSumOf_any (s : ByteArray) (hs : s.size ≤ 9223372036854775807) (w : World) (hT : SumTab w) :
    Calls Tryd.prog 88 #[.string s] w fun e w' => e = .returned (.int .u32 (sumL 4294967295 s.data.toList : Int)) ∧ w = w' := by
  have HT := hide hT
  clear hT
  go_enter Tryd.func88, Tryd.ntmps88
  go_wp2_with fail
  refine (implSumMore_any 4294967295 s (by omega) hs _ HT.out).mono ?_
  rintro e w1 ⟨rfl, rfl⟩
  go_wp2
  go_ret
  exact ⟨rfl, rfl⟩
theorem four_at (x : Nat) : [Value.int .u8 ((x / 16777216 % 256 : Nat) : Int), .int .u8 ((x / 65536 % 256 : Nat) : Int), .int .u8 ((x / 256 % 256 : Nat) : Int), .int .u8 ((x % 256 : Nat) : Int)] = Lib.byteCells (fourL x) := by
  simp [Lib.byteCells, fourL]
theorem wrap8 (a b : Nat) (h : b = a % 256) : IntKind.u8.wrap (a : Int) = (b : Int) := by
  subst h
  simp [IntKind.wrap, IntKind.signed, IntKind.bits]
set_option maxHeartbeats 1000000 in
theorem text_any (x : Nat) (w : World) :
    Calls Tryd.prog 89 #[.int .u32 (x : Int)] w fun e w' => e = .returned (.string ⟨(fourL x).toArray⟩) ∧ Below w.heap.size w w' := by
  obtain ⟨a, ha⟩ : ∃ a, a = x / 16777216 % 256 := ⟨_, rfl⟩
  obtain ⟨b, hb⟩ : ∃ b, b = x / 65536 % 256 := ⟨_, rfl⟩
  obtain ⟨c, hc⟩ : ∃ c, c = x / 256 % 256 := ⟨_, rfl⟩
  obtain ⟨d, hd⟩ : ∃ d, d = x % 256 := ⟨_, rfl⟩
  have q1 : IntKind.u8.wrap ((x : Int) / 16777216) = (a : Int) := wrap8 (x / 16777216) a ha
  have q2 : IntKind.u8.wrap ((x : Int) / 65536) = (b : Int) := wrap8 (x / 65536) b hb
  have q3 : IntKind.u8.wrap ((x : Int) / 256) = (c : Int) := wrap8 (x / 256) c hc
  have q4 : IntKind.u8.wrap (x : Int) = (d : Int) := wrap8 x d hd
  have HC : Hid ([Value.int .u8 (a : Int), .int .u8 (b : Int), .int .u8 (c : Int), .int .u8 (d : Int)] = Lib.byteCells (fourL x)) := hide (by rw [ha, hb, hc, hd]; exact four_at x)
  clear ha hb hc hd
  have hown : (w.alloc (Obj.cells #[.int .u8 (a : Int), .int .u8 (b : Int), .int .u8 (c : Int), .int .u8 (d : Int)] 5)).ownsRow w.heap.size 5 1 (.slice (some ⟨w.heap.size, 0, none⟩) 4 4) (fourL x).length (Lib.byteCells (fourL x)) := by
    rw [← HC.out]
    exact World.ownsRow_lit (base := w.heap.size) (e := 5) (size := 1) w #[.int .u8 (a : Int), .int .u8 (b : Int), .int .u8 (c : Int), .int .u8 (d : Int)] 4 (Nat.le_refl _) (by unfold maxLen; omega) (by simp)
  have hcv : (convert 22 9 (.slice (some ⟨w.heap.size, 0, none⟩) 4 4)).run Tryd.prog (w.alloc (Obj.cells #[.int .u8 (a : Int), .int .u8 (b : Int), .int .u8 (c : Int), .int .u8 (d : Int)] 5)) = .ok (.string ⟨(fourL x).toArray⟩) (w.alloc (Obj.cells #[.int .u8 (a : Int), .int .u8 (b : Int), .int .u8 (c : Int), .int .u8 (d : Int)] 5)) :=
    string_own (l := fourL x) Tryd.underlying22 Tryd.underlying5 Tryd.underlying9 hown
  clear hown
  go_enter Tryd.func89, Tryd.ntmps89
  go_wp2
  go_ret
  exact ⟨rfl, (Below.refl _ _).alloc (Nat.le_refl _) _⟩
end Go.Proofs.YtmmepgincbngeaaDoor
namespace Go.Proofs
open Go.Shelf
def Tryd.laysM316_ren : Go.Shelf.Ren := ⟨fun | 316 => 65 | n => n, fun | 9 => 9 | 3 => 3 | 4 => 4 | 37 => 22 | 0 => 0 | 127 => 75 | 5 => 5 | n => n, fun | n => n⟩
theorem Tryd.laysM316 : Go.Proofs.LaysM.n316 Tryd.prog Tryd.laysM316_ren := {
  mixed := by kernel_rfl
  f316 := Tryd.func65.trans (congrArg some (by kernel_rfl))
  t0 := Tryd.underlying0
  a0 := Tryd.isAgg0
  z0 := Tryd.sizeOf0
  v0 := Tryd.zeroValue0
  t3 := Tryd.underlying3
  a3 := Tryd.isAgg3
  z3 := Tryd.sizeOf3
  v3 := Tryd.zeroValue3
  t4 := Tryd.underlying4
  a4 := Tryd.isAgg4
  z4 := Tryd.sizeOf4
  v4 := Tryd.zeroValue4
  t9 := Tryd.underlying9
  a9 := Tryd.isAgg9
  z9 := Tryd.sizeOf9
  v9 := Tryd.zeroValue9
  t37 := Tryd.underlying22
  a37 := Tryd.isAgg22
  z37 := Tryd.sizeOf22
  v37 := Tryd.zeroValue22
  t127 := Tryd.underlying75
  a127 := Tryd.isAgg75
  z127 := Tryd.sizeOf75
  v127 := Tryd.zeroValue75
  t5 := Tryd.underlying5
  a5 := Tryd.isAgg5
  z5 := Tryd.sizeOf5
  v5 := Tryd.zeroValue5
  i0 := by kernel_rfl
  i3 := by kernel_rfl
  i4 := by kernel_rfl
  i5 := by kernel_rfl
  i9 := by kernel_rfl
  i37 := by kernel_rfl
  i127 := by kernel_rfl }
open Go.RowKit in
theorem Tryd.stringslite_Clone (s : ByteArray) (w : World) (hlim : s.size ≤ 281474976710656) :
    Calls Tryd.prog 65 #[.string s] w fun e w' => e = .returned (.string s) ∧ Below w.heap.size w w' := Any.stringslite_Clone Tryd.laysM316 s w hlim
end Go.Proofs
namespace Go.Proofs.YtmmepgincbngeaaDoor
open Go.RowKit
set_option maxHeartbeats 400000 in
theorem clone_any (s : ByteArray) (hs : s.size ≤ 140737488351232) (w : World) :
    Calls Tryd.prog 51 #[.string s] w fun e w' => e = .returned (.string s) ∧ Below w.heap.size w w' := by
  go_enter Tryd.func51, Tryd.ntmps51
  go_wp2_with fail
  refine (Tryd.stringslite_Clone s _ (by omega)).mono ?_
  rintro e w1 ⟨rfl, hb⟩
  go_wp2
  go_ret
  exact ⟨rfl, hb⟩
open Go.RowKit
theorem seal_bytes (s : ByteArray) : s ++ ⟨(fourL (sumL 4294967295 s.data.toList)).toArray⟩ = (⟨(sealL s.data.toList).toArray⟩ : ByteArray) := by
  apply ByteArray.ext
  simp [sealL]
set_option maxHeartbeats 400000 in
theorem implSealed_yes (s : ByteArray) (h : s.size ≤ 20000) (w : World) (hT : SumTab w) :
    Calls Tryd.prog 82 #[.string s] w fun e w' => e = .returned (.tuple #[.string ⟨(sealL s.data.toList).toArray⟩, .bool true]) ∧ Below w.heap.size w w' := by
  have HT := hide hT
  clear hT
  have hf : (⟨(fourL (sumL 4294967295 s.data.toList)).toArray⟩ : ByteArray).size = 4 := rfl
  go_enter Tryd.func82, Tryd.ntmps82
  go_wp2_with fail
  refine (implSumOf_any s (by omega) _ HT.out).mono ?_
  rintro e w1 ⟨rfl, rfl⟩
  go_wp2_with fail
  refine (text_any (sumL 4294967295 s.data.toList) _).mono ?_
  rintro e w1 ⟨rfl, hb⟩
  go_wp2
  go_ret2
  rw [← seal_bytes]
  exact ⟨rfl, hb⟩
open Go.RowKit
def meta0 : Mt := ⟨0, 0, 2, []⟩
def formatP (n : Int) : List ByteArray := if 4 ≤ n ∧ n ≤ 40 then syncD (newP n) (writeL (newP n) [] 0 meta0.textO) else []
theorem frees_none (w : World) : FreesAt w (.slice none 0 0) [] := ⟨[], rfl, ⟨rfl, none, 0, rfl, Or.inl rfl⟩, fun k tx ps p h => by simp at h⟩
theorem disk_down0 {w : World} {B B' : Nat} {v : Value} {ps : List ByteArray} {ls : List (Int × ByteArray)} (h : DiskOwn w B v ps ls) (hB : B' ≤ B) : DiskOwn w B' v ps ls := by
  obtain ⟨vp, vl, e, h1, h2⟩ := h
  exact ⟨vp, vl, e, own_down h1 hB, own_down h2 hB⟩
theorem Tryd.sizeDisk : (Tryd.prog.info? 60).map (·.size) = some 2 := by kernel_rfl
end Go.Proofs.YtmmepgincbngeaaDoor
