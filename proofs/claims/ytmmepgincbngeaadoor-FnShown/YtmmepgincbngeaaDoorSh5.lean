/-
  Facts and contracts that the law's own text rests on, by their texts' names: ShownPlain, LawShownW, RunePl, LinesI, ImplEventN, WordRd.
-/
import Derived.Test.YtmmepgincbngeaaDoorSh4
import Derived.Laws.RangeAny
import Derived.Test.YtmmepgincbngeaaDoorSh1
import Derived.Lib.OthersKept
import Derived.Test.YtmmepgincbngeaaDoorSh2
import Derived.Test.YtmmepgincbngeaaDoorSh3
namespace Go.Proofs.YtmmepgincbngeaaDoor
open Go.RowKit
def litS : ByteArray := ⟨#[112, 97, 103, 101, 115, 32, 57, 10, 98, 101, 103, 105, 110, 10, 112, 117, 116, 32, 97, 32, 98, 10]⟩
def evs2 : List Evt := [evt0 0, { evt0 1 with key := ⟨#[97]⟩, val := ⟨#[98]⟩ }]
theorem decO_nine : decO [57] = some 9 := by
  have h : okD ⟨#[57]⟩ := ⟨by decide, fun i hi => by
    have hi : i < 1 := hi
    obtain rfl : i = 0 := by omega
    exact (show isD 57 from by unfold isD; omega), Or.inl rfl, by decide⟩
  rw [decO, if_pos h]
  rfl
theorem scr_lit : scrO litS = (9, evs2, 0) := by
  have h0 : ¬ (3000 < litS.size ∨ 90 < (linesOf litS).length) := by decide
  have e : linesOf litS = [[112, 97, 103, 101, 115, 32, 57], [98, 101, 103, 105, 110], [112, 117, 116, 32, 97, 32, 98]] := by decide
  have p1 : partsOut ⟨([112, 97, 103, 101, 115, 32, 57] : List UInt8).toArray⟩ = ([pgw, [57]], true) := by decide
  have p2 : partsOut ⟨([98, 101, 103, 105, 110] : List UInt8).toArray⟩ = ([[98, 101, 103, 105, 110]], true) := by decide
  have p3 : partsOut ⟨([112, 117, 116, 32, 97, 32, 98] : List UInt8).toArray⟩ = ([[112, 117, 116], [97], [98]], true) := by decide
  have q1 : pagesO [pgw, [57]] = some 9 := by
    rw [pagesO, if_pos ⟨rfl, rfl⟩]
    show (decO [57]).bind _ = _
    rw [decO_nine]
    rfl
  have q2 : evOf [[98, 101, 103, 105, 110]] = some (evt0 0) := by
    rw [evOf, show (List.range 10).find? (isKw [[98, 101, 103, 105, 110]]) = some 0 from by decide]
    rfl
  have q3 : evOf [[112, 117, 116], [97], [98]] = some { evt0 1 with key := ⟨#[97]⟩, val := ⟨#[98]⟩ } := by
    rw [evOf, show (List.range 10).find? (isKw [[112, 117, 116], [97], [98]]) = some 1 from by decide]
    rfl
  have o1 : (evt0 0).ok = true := by decide
  have o2 : ({ evt0 1 with key := ⟨#[97]⟩, val := ⟨#[98]⟩ } : Evt).ok = true := by decide
  rw [scrO, if_neg h0, e, scrGo, p1, if_neg (by decide), if_neg (by decide), if_pos rfl, q1]
  show scrGo _ _ _ _ = _
  rw [scrGo, p2, if_neg (by decide), if_neg (by decide), if_neg (by decide), q2]
  show (if (evt0 0).ok = true ∧ _ then _ else _) = _
  rw [if_pos ⟨o1, by decide⟩, scrGo, p3, if_neg (by decide), if_neg (by decide), if_neg (by decide), q3]
  show (if Evt.ok _ = true ∧ _ then _ else _) = _
  rw [if_pos ⟨o2, by decide⟩, scrGo, if_neg (by decide)]
  rfl
theorem showP_from : ∀ (L : List (ByteArray × ByteArray)) (s : ByteArray), L.foldl (fun s p => s ++ p.1 ++ ⟨#[32]⟩ ++ p.2 ++ ⟨#[10]⟩) s = s ++ showP L
  | [], s => by rw [List.foldl_nil]; exact ByteArray.append_empty.symm
  | p :: r, s => by
    have e : showP (p :: r) = (⟨#[]⟩ ++ p.1 ++ ⟨#[32]⟩ ++ p.2 ++ ⟨#[10]⟩) ++ showP r := showP_from r _
    rw [List.foldl_cons, showP_from r, e, show (⟨#[]⟩ : ByteArray) ++ p.1 = p.1 from ByteArray.empty_append]
    simp only [ByteArray.append_assoc]
theorem showP_append (A B : List (ByteArray × ByteArray)) : showP (A ++ B) = showP A ++ showP B := by
  rw [showP, List.foldl_append, showP_from B]
  rfl
theorem ext_end (A B : ByteArray) : (A ++ B).extract A.size (A ++ B).size = B := by
  have h := extract_cat A B ⟨#[]⟩
  rw [show A ++ B ++ (⟨#[]⟩ : ByteArray) = A ++ B from ByteArray.append_empty] at h
  rw [ByteArray.size_append]
  exact h
theorem ext_beg (A B : ByteArray) : (A ++ B).extract 0 A.size = A := by
  have h := extract_cat ⟨#[]⟩ A B
  rw [show (⟨#[]⟩ : ByteArray) ++ A = A from ByteArray.empty_append] at h
  have e : (⟨#[]⟩ : ByteArray).size = 0 := rfl
  rw [e, Nat.zero_add] at h
  exact h
theorem showP_at (L : List (ByteArray × ByteArray)) (i : Nat) (p : ByteArray × ByteArray) (h : L[i]? = some p) : ∃ X, (showP L).extract (showP (L.take i)).size (showP L).size = p.1 ++ ⟨#[32]⟩ ++ X := by
  have hi : i < L.length := (List.getElem?_eq_some_iff.1 h).1
  have e : showP L = showP (L.take i) ++ (p.1 ++ ⟨#[32]⟩ ++ (p.2 ++ ⟨#[10]⟩ ++ showP (L.drop (i + 1)))) := by
    conv => lhs; rw [← List.take_append_drop (i + 1) L, showP_append, showP_next L i h]
    simp only [ByteArray.append_assoc]
  refine ⟨p.2 ++ ⟨#[10]⟩ ++ showP (L.drop (i + 1)), ?_⟩
  rw [e]
  exact ext_end _ _
theorem showP_step (L : List (ByteArray × ByteArray)) (i : Nat) (p : ByteArray × ByteArray) (h : L[i]? = some p) : (showP (L.take (i + 1))).size = (showP (L.take i)).size + p.1.size + p.2.size + 2 := by
  rw [showP_next L i h]
  simp only [ByteArray.size_append]
  have e1 : (⟨#[32]⟩ : ByteArray).size = 1 := rfl
  have e2 : (⟨#[10]⟩ : ByteArray).size = 1 := rfl
  omega
theorem showP_le (L : List (ByteArray × ByteArray)) (i : Nat) : (showP (L.take i)).size ≤ (showP L).size := by
  have e : showP L = showP (L.take i) ++ showP (L.drop i) := by rw [← showP_append, List.take_append_drop]
  rw [e, ByteArray.size_append]
  omega
theorem showP_small : ∀ (L : List (ByteArray × ByteArray)), (∀ p ∈ L, p.1.size ≤ 8 ∧ p.2.size ≤ 8) → (showP L).size ≤ L.length * 18
  | [], _ => Nat.le_refl _
  | p :: r, h => by
    have ih := showP_small r (fun q hq => h q (by simp [hq]))
    have hp := h p (by simp)
    have e : showP (p :: r) = (⟨#[]⟩ ++ p.1 ++ ⟨#[32]⟩ ++ p.2 ++ ⟨#[10]⟩) ++ showP r := by rw [showP, List.foldl_cons, showP_from r]
    rw [e]
    simp only [ByteArray.size_append, List.length_cons]
    have e1 : (⟨#[32]⟩ : ByteArray).size = 1 := rfl
    have e2 : (⟨#[10]⟩ : ByteArray).size = 1 := rfl
    have e3 : (⟨#[]⟩ : ByteArray).size = 0 := rfl
    omega
set_option maxHeartbeats 1000000 in
theorem begins_yes (a x : ByteArray) (w : World) : Calls Tryd.prog 9 #[.string a, .string (a ++ x)] w fun e w' => e = .returned (.bool true) ∧ w = w' := by
  obtain ⟨b, hb⟩ : ∃ b, a ++ x = b := ⟨_, rfl⟩
  have hle : a.size ≤ b.size := by rw [← hb, ByteArray.size_append]; omega
  have he : b.extract 0 a.size = a := by rw [← hb]; exact ext_beg a x
  rw [hb]
  clear hb
  have h0 : (0 : Int) ≤ (a.size : Int) := by omega
  have h1 : (a.size : Int) ≤ (b.size : Int) := by omega
  go_enter Tryd.func9, Tryd.ntmps9
  go_wp2
  go_ret
  refine ⟨?_, rfl⟩
  simp
open Go.RowKit
theorem below_curS {w w1 w2 : World} {B : Nat} {a : Option Addr} {len cap : Nat} (h : Below w.heap.size w w1) (hd : Drawn w1 w2 w.heap.size B a len cap) : Below w.heap.size w w2 :=
  h.grown hd.2.1 h.size (fun k hk => by injection hk with hk; omega)
set_option maxHeartbeats 1000000 in
theorem drawShowPairs_any (a : Option Addr) (len cap : Nat) (w : World) (hd : CodeIn w w.heap.size a len) :
    Calls Tryd.prog 6 #[.slice a len cap] w fun e w' => ∃ (L : List (ByteArray × ByteArray)) (v : Value), e = .returned v ∧ DrwP L ∧ w'.ownsRow w.heap.size 32 2 v L.length (prq L) ∧ Below w.heap.size w w' := by
  have HD := hide hd
  clear hd
  go_enter Tryd.func6, Tryd.ntmps6
  go_wp2_with fail
  refine (l01New_any a len cap w HD.out).mono ?_
  rintro e w1 ⟨rfl, hc1, hd1, hb1⟩
  have HC := hide (⟨hc1, hd1, hb1⟩ : _ ∧ _ ∧ _)
  clear hc1 hd1 hb1
  go_wp2_with fail
  refine (l15Pairs_any w.heap.size w.heap.size a len cap w1 HC.out.1 HC.out.2.1 (Nat.le_refl _)).mono ?_
  rintro e w2 ⟨L, v, rfl, hp, ho, hd3⟩
  have HP := hide (⟨hp, own_down ho HC.out.2.2.size, below_curS HC.out.2.2 hd3⟩ : _ ∧ _ ∧ _)
  clear hp ho hd3
  go_wp2_with fail
  refine bodyPost_ret (v := v) (by simp [results, Tryd.results6, go_sem]) rfl ⟨L, v, rfl, HP.out.1, HP.out.2.1, HP.out.2.2⟩
set_option maxHeartbeats 8000000 in
set_option maxRecDepth 100000 in
theorem lawShown (a : Option Addr) (len cap : Nat) (w : World)
    (hS : ∀ (L : List (ByteArray × ByteArray)) (u : Value) (wx : World), L.length ≤ 1000 → (∀ p ∈ L, p.1.size ≤ 1000 ∧ p.2.size ≤ 1000) → RowAt wx 2 u L.length (prq L) → Calls Tryd.prog 7 #[u] wx fun e w' => e = .returned (.string (showP L)) ∧ Below wx.heap.size wx w')
    (hR : ∀ wx, Below w.heap.size w wx → Calls Tryd.prog 8 #[.string litS] wx fun e w' => ScrRet wx w' (9, evs2, 0) e)
    (h : 1048576 < len ∨ CodeIn w w.heap.size a len) :
    Calls Tryd.prog 3 #[.slice a len cap] w fun e w' => e = .returned (.bool true) ∧ Below w.heap.size w w' := by
  rcases h with hbig | hd
  · clear hS hR
    go_enter Tryd.func3, Tryd.ntmps3
    go_wp2_with fail
    refine (big_yes a len cap hbig w).mono ?_
    rintro e w1 ⟨rfl, rfl⟩
    go_wp2_with fail
    go_ret
    exact ⟨rfl, Below.refl _ _⟩
  have HD := hide hd
  have hlen := hd.1
  have HSi := hide hS
  have HRd := hide hR
  rw [litS] at HRd
  clear hd hS hR
  go_enter Tryd.func3, Tryd.ntmps3
  go_wp2_with fail
  refine (big_no a len cap hlen w).mono ?_
  rintro e w1 ⟨rfl, rfl⟩
  go_wp2_with fail
  refine (drawShowPairs_any a len cap w HD.out).mono ?_
  rintro e w1 ⟨L, lv, rfl, hL, ho, hb1⟩
  obtain ⟨x, c, rfl⟩ := own_slice ho
  obtain ⟨n, hn⟩ : ∃ n, L.length = n := ⟨_, rfl⟩
  obtain ⟨ans, hans⟩ : ∃ s, showP L = s := ⟨_, rfl⟩
  have hasz : ans.size ≤ 400 := by rw [← hans]; have := showP_small L hL.2.2; have := hL.2.1; omega
  have hn20 : n ≤ 20 := by rw [← hn]; exact hL.2.1
  have HB1 := hide hb1
  have HR1 : Hid (∀ wx, Below w1.heap.size w1 wx → RowAt wx 2 (.slice x L.length c) L.length (prq L)) := hide (fun wx h => row_below (row_of_own ho) h)
  have HIm := hide (fun wx (h : Below w1.heap.size w1 wx) => HSi.out L (.slice x L.length c) wx (by have := hL.2.1; omega) (fun p hp => ⟨Nat.le_trans (hL.2.2 p hp).1 (by omega), Nat.le_trans (hL.2.2 p hp).2 (by omega)⟩) (HR1.out wx h))
  have HSp := hide (fun wx (h : Below w1.heap.size w1 wx) => specShowPairs_any L (by have := hL.2.1; omega) (fun p hp => ⟨Nat.le_trans (hL.2.2 p hp).1 (by omega), Nat.le_trans (hL.2.2 p hp).2 (by omega)⟩) (.slice x L.length c) wx (HR1.out wx h))
  have HAt : Hid (∀ (i : Nat) (p : ByteArray × ByteArray), L[i]? = some p → ∃ X, ans.extract (showP (L.take i)).size ans.size = p.1 ++ ⟨#[32]⟩ ++ X) := hide (fun i p hp => by rw [← hans]; exact showP_at L i p hp)
  have HSt : Hid (∀ (i : Nat) (p : ByteArray × ByteArray), L[i]? = some p → (showP (L.take (i + 1))).size = (showP (L.take i)).size + p.1.size + p.2.size + 2 ∧ p.1.size ≤ 8 ∧ p.2.size ≤ 8) := hide (fun i p hp => ⟨showP_step L i p hp, hL.2.2 p (List.mem_of_getElem? hp)⟩)
  have HLe : Hid (∀ i, i ≤ L.length → (showP (L.take i)).size ≤ ans.size) := hide (fun i _ => by rw [← hans]; exact showP_le L i)
  have HAll : Hid ((showP (L.take L.length)).size = ans.size) := hide (by rw [List.take_length, hans])
  rw [hn] at HR1 HIm HSp HLe HAll ⊢
  rw [hans] at HIm HSp
  have HN := hide hn
  clear hn hans hL ho hb1 HSi HD
  go_wp2_with fail
  refine (HIm.out w1 (Below.refl _ _)).mono ?_
  rintro e w2 ⟨rfl, hb⟩
  have HB2 := hide hb
  clear hb HIm
  go_wp2_with fail
  refine (HRd.out w2 (HB1.out.trans (HB2.out.mono HB1.out.size))).mono ?_
  rintro e w3 ⟨⟨ev, l, rfl, hl, hE⟩, hb⟩
  have hl2 : l.length = 2 := by rw [← List.length_map (f := Prod.fst), hl]; rfl
  obtain ⟨q0, q1, rfl⟩ : ∃ q0 q1, l = [q0, q1] := by
    rcases l with _ | ⟨q0, _ | ⟨q1, _ | ⟨q2, r⟩⟩⟩ <;> simp at hl2
    exact ⟨q0, q1, rfl⟩
  obtain ⟨xe, ce, rfl⟩ := own_slice hE.1
  have hcell : ∃ b off, xe = some ⟨b, off, none⟩ ∧ b < w3.heap.size ∧ w3.cell? ⟨b, off + 10, none⟩ = some (.string ⟨#[98]⟩) := by
    obtain ⟨b, off, cs, hx, hlt, -, hr, -, x', c', hcs, -⟩ := evs_get (evs_of_own hE) (k := 1) (e := { evt0 1 with key := ⟨#[97]⟩, val := ⟨#[98]⟩ }) (by rw [hl]; rfl)
    have h3 := hr 3 (.string ⟨#[98]⟩) (by rw [hcs]; rfl)
    exact ⟨b, off, hx, hlt, h3⟩
  obtain ⟨be, oe, rfl, hbe, hce⟩ := hcell
  have HE : Hid (∀ wx, Below w3.heap.size w3 wx → wx.cell? ⟨be, oe + 10, none⟩ = some (.string ⟨#[98]⟩)) := hide (fun wx hb => by rw [hb.cell (by exact hbe)]; exact hce)
  have HB3 : Hid (Below w1.heap.size w1 w3) := hide (HB2.out.trans (hb.mono HB2.out.size))
  clear hb hl hE hl2 HRd hbe hce
  simp only [List.length_cons, List.length_nil, Nat.zero_add, Nat.reduceAdd]
  go_wp2_with fail
  go_loopg [8, 9] n (fun q nv iv wr => ∃ (i k : Nat), i ≤ n ∧ q + i = n ∧ iv = .int .i64 (i : Int) ∧ nv = .int .i64 (k : Int) ∧ Hid (k = (showP (L.take i)).size) ∧ Hid (Below w3.heap.size w3 wr))
  case atStart => exact ⟨0, 0, Nat.zero_le _, rfl, rfl, rfl, hide rfl, hide (Below.refl _ _)⟩
  case round =>
    obtain ⟨i, k, hin, hq, rfl, rfl, HK, HW⟩ := hrel
    have HQ := hide hq
    clear hq
    have hkle : k ≤ ans.size := by rw [HK.out]; exact HLe.out i hin
    by_cases hlt : i < n
    · obtain ⟨p, hp⟩ : ∃ p, L[i]? = some p := ⟨L[i]'(by have := HN.out; omega), List.getElem?_eq_getElem _⟩
      obtain ⟨y, z⟩ := p
      have hb1r : Below w1.heap.size w1 wr := HB3.out.trans (HW.out.mono HB3.out.size)
      obtain ⟨g, off, rfl, c0, c1⟩ := prq_cells (HR1.out w1 (Below.refl _ _)) hb1r hlt hp
      dsimp only at c0 c1
      obtain ⟨X, hX⟩ := HAt.out i (y, z) hp
      obtain ⟨hst, hy8, hz8⟩ := HSt.out i (y, z) hp
      dsimp only at hX hst hy8 hz8
      rw [← HK.out] at hX hst
      have hi0 : (0 : Int) ≤ (i : Int) := by omega
      have hi1 : (i : Int) < (n : Int) := by omega
      have hk0 : (0 : Int) ≤ (k : Int) := by omega
      have hk1 : (k : Int) ≤ (ans.size : Int) := by omega
      have HBg := hide (fun wx => begins_yes (y ++ ⟨#[32]⟩) X wx)
      rw [← hX] at HBg
      have HSt2 := hide hst
      clear hp hX hst hb1r
      go_wp2_with fail
      go_quiet ((go_at_call 9; exact Calls.quiet_of_same ((HBg.out _).mono (fun _ _ h => ⟨h.1, h.2.symm⟩))))
      clear HBg
      go_wp2_with fail
      go_quiet (fail)
      go_wp2_with fail
      go_roundg (gk - 1)
      case measure => have := HQ.out; omega
      case rel => exact ⟨i + 1, k + y.size + z.size + 2, by omega, by have := HQ.out; omega, by go_num, by go_num, hide HSt2.out.symm, hide (below_drewN HW.out _)⟩
    · obtain rfl : i = n := by omega
      have hke : k = ans.size := by rw [HK.out]; exact HAll.out
      subst hke
      have hb1r : Below w1.heap.size w1 wr := HB3.out.trans (HW.out.mono HB3.out.size)
      have HB1r := hide hb1r
      have hEe := fun wx hb => HE.out wx (HW.out.trans hb)
      have HSq := hide (HSp.out wr hb1r)
      clear hb1r
      have dg : (ans.toList == ans.toList) = true := by simp
      go_wp2_with fail
      refine HSq.out.mono ?_
      rintro e w4 ⟨rfl, hb⟩
      have HB4 : Hid (Below w.heap.size w w4) := hide (HB1.out.trans (Below.mono (HB1r.out.trans (hb.mono HB1r.out.size)) HB1.out.size))
      have hce := hEe w4 (hb.mono HW.out.size)
      clear hb hEe HSq
      go_wp2_with fail
      go_ret
      exact ⟨rfl, HB4.out⟩
open Go.RowKit
theorem get_byt (s : ByteArray) (i : Nat) (h : i < s.size) : (s.get! i).toNat = byt s i := by
  rw [byt, dif_pos h]
  have e : s.get! i = s[i] := by
    simp [ByteArray.get!, getElem!_pos, h]
    rfl
  rw [e]
theorem rune_step (s : ByteArray) (k : Nat) (hk : k < s.size) : 1 ≤ (Utf8.decode s k).2 ∧ k + (Utf8.decode s k).2 ≤ s.size ∧ (((Utf8.decode s k).1 = byt s k ∧ byt s k < 128 ∧ (Utf8.decode s k).2 = 1) ∨ (128 ≤ (Utf8.decode s k).1 ∧ ∀ i, k ≤ i → i < k + (Utf8.decode s k).2 → 128 ≤ byt s i)) := by
  have hb : ∀ j, k + j < s.size → (s.get! (k + j)).toNat = byt s (k + j) := fun j hj => get_byt s _ hj
  have h0 := hb 0 (by omega)
  rw [Nat.add_zero] at h0
  have hlt : ∀ i, byt s i < 256 := byt_lt s
  by_cases ha : byt s k < 128
  · have e : Utf8.decode s k = (byt s k, 1) := by
      have h0' : s.get! (k + 0) = s.get! k := rfl
      simp only [Utf8.decode, h0', h0, if_pos ha]
    rw [e]
    exact ⟨Nat.le_refl _, by omega, Or.inl ⟨rfl, ha, rfl⟩⟩
  · have h1 : 128 ≤ (Utf8.decode s k).1 := by
      have := decode_high s k hk (by rw [byt_eq s k hk]; omega)
      exact this.1
    have hbk : 128 ≤ byt s k := by omega
    have ha' : ¬ (s.get! (k + 0)).toNat < 128 := by
      show ¬ (s.get! k).toNat < 128
      rw [h0]; exact ha
    have hc : ∀ j, (k + j < s.size && (s.get! (k + j)).toNat / 64 == 2) = true → k + j < s.size ∧ 128 ≤ byt s (k + j) := by
      intro j h
      rw [Bool.and_eq_true, decide_eq_true_eq, beq_iff_eq] at h
      obtain ⟨h2, h3⟩ := h
      rw [hb j h2] at h3
      exact ⟨h2, by omega⟩
    have key : ∀ m, m = (Utf8.decode s k).2 → 1 ≤ m ∧ k + m ≤ s.size ∧ ∀ i, k ≤ i → i < k + m → 128 ≤ byt s i := by
      intro m hm
      have one : 1 ≤ 1 ∧ k + 1 ≤ s.size ∧ ∀ i, k ≤ i → i < k + 1 → 128 ≤ byt s i := ⟨Nat.le_refl _, by omega, fun i h2 h3 => by rw [show i = k from by omega]; exact hbk⟩
      simp only [Utf8.decode, if_neg ha'] at hm
      split at hm
      · rename_i h
        rw [Bool.and_eq_true] at h
        have h2 := hc 1 h.2
        split at hm
        · subst hm
          refine ⟨by show 1 ≤ 2; decide, by show k + 2 ≤ s.size; omega, fun i h4 h5 => ?_⟩
          have h5 : i < k + 2 := h5
          rcases (by omega : i = k ∨ i = k + 1) with rfl | rfl
          · exact hbk
          · exact h2.2
        · subst hm; exact one
      · split at hm
        · rename_i h
          rw [Bool.and_eq_true, Bool.and_eq_true] at h
          have h2 := hc 1 h.1.2
          have h3 := hc 2 h.2
          split at hm
          · subst hm
            refine ⟨by show 1 ≤ 3; decide, by show k + 3 ≤ s.size; omega, fun i h4 h5 => ?_⟩
            have h5 : i < k + 3 := h5
            rcases (by omega : i = k ∨ i = k + 1 ∨ i = k + 2) with rfl | rfl | rfl
            · exact hbk
            · exact h2.2
            · exact h3.2
          · subst hm; exact one
        · split at hm
          · rename_i h
            rw [Bool.and_eq_true, Bool.and_eq_true, Bool.and_eq_true] at h
            have h2 := hc 1 h.1.1.2
            have h3 := hc 2 h.1.2
            have h4 := hc 3 h.2
            split at hm
            · subst hm
              refine ⟨by show 1 ≤ 4; decide, by show k + 4 ≤ s.size; omega, fun i h5 h6 => ?_⟩
              have h6 : i < k + 4 := h6
              rcases (by omega : i = k ∨ i = k + 1 ∨ i = k + 2 ∨ i = k + 3) with rfl | rfl | rfl | rfl
              · exact hbk
              · exact h2.2
              · exact h3.2
              · exact h4.2
            · subst hm; exact one
          · subst hm; exact one
    obtain ⟨k1, k2, k3⟩ := key _ rfl
    exact ⟨k1, k2, Or.inr ⟨h1, k3⟩⟩
open Go.RowKit
theorem own_noIter {w : World} {B e sz n g p : Nat} {v : Value} {xs : List Value} {s : ByteArray} (h : w.ownsRow B e sz v n xs) (hg : w.heap[g]? = some (.stringIter s p)) : v.ownBlock ≠ some g := by
  rcases h.2 with ⟨rfl, _⟩ | ⟨g', cap, cur, rfl, _, hgg, _⟩
  · simp [Value.ownBlock]
  · simp [Value.ownBlock]
    rintro rfl
    rw [hgg] at hg
    simp at hg
theorem own_iterAt {w : World} {B e sz n g p q : Nat} {v : Value} {xs : List Value} {s : ByteArray} (h : w.ownsRow B e sz v n xs) (hg : w.heap[g]? = some (.stringIter s p)) : (w.iterAt g s q).ownsRow B e sz v n xs :=
  h.kept (row := some g) ⟨rfl, rfl, rfl, by rw [Lib.iterAt_size]; exact Nat.le_refl _, fun k _ hk => Lib.iterAt_other w g k s q (fun e => hk (by rw [e]))⟩ (Or.inr (own_noIter h hg))
set_option maxHeartbeats 4000000 in
set_option maxRecDepth 100000 in
theorem implLines_any (s : ByteArray) (hs : s.size ≤ 1048576) (w : World) :
    Calls Tryd.prog 19 #[.string s] w fun e w' => ∃ v, e = .returned v ∧ w'.ownsRow w.heap.size 9 1 v (linesOf s).length (strVs (linesOf s)) ∧ Below w.heap.size w w' := by
  obtain ⟨i0, hi, hz0, hz1, hz2⟩ := info_parts Tryd.infoString
  go_enter Tryd.func19, Tryd.ntmps19
  go_wp2_with fail
  go_loopg [3, 4] s.size (fun g v bv wr => ∃ (k b : Nat) (D : List (List UInt8)), k ≤ s.size ∧ b ≤ k ∧ bv = .int .i64 (b : Int) ∧ g + k = s.size ∧ D.length ≤ k ∧ Hid (∀ i, b ≤ i → i < k → byt s i ≠ 10) ∧ Hid (D ++ rest s b = linesOf s) ∧ wr.ownsRow w.heap.size 9 1 v D.length (strVs D) ∧ Below w.heap.size w wr ∧ wr.heap[w.heap.size + 1]? = some (.stringIter s k))
  case atStart =>
    refine ⟨0, 0, [], by omega, by omega, rfl, by omega, by simp, hide (fun i h1 h2 => by omega), hide rfl, (own_none w w.heap.size (Nat.le_refl _)).alloc _, ((Below.refl _ _).alloc (Nat.le_refl _) _).alloc (by simp) _, ?_⟩
    have h := World.iter_heap (w.alloc (.cells #[] 9)) s 0
    rw [show (w.alloc (Obj.cells #[] 9)).heap.size = w.heap.size + 1 from by simp] at h
    exact h
  case round =>
    obtain ⟨k, b, D, hk, hbk, rfl, hg, hDk, HN, HT, hown, hb, hit⟩ := hrel
    have HG := hide hg
    clear hg
    by_cases hlt : k < s.size
    · have hnx := fun ty => Lib.run_next_any_at (P := Tryd.prog) wr (w.heap.size + 1) s k ty hit hlt
      obtain ⟨d1, d2, d3⟩ := rune_step s k hlt
      have hit2 := Lib.iterAt_heap wr (w.heap.size + 1) s k (k + (Utf8.decode s k).2) hit
      have hown2 := own_iterAt (q := k + (Utf8.decode s k).2) hown hit
      have hb2 := Lib.below_iterAt hb (k := w.heap.size + 1) (by omega) s (k + (Utf8.decode s k).2)
      obtain ⟨r, hr⟩ : ∃ r, r = (Utf8.decode s k).1 := ⟨_, rfl⟩
      obtain ⟨d, hd⟩ : ∃ d, d = (Utf8.decode s k).2 := ⟨_, rfl⟩
      rw [← hr, ← hd] at d3 hnx
      rw [← hd] at d1 d2 hit2 hown2 hb2
      obtain ⟨w2, hw2⟩ : ∃ x, x = wr.iterAt (w.heap.size + 1) s (k + d) := ⟨_, rfl⟩
      rw [← hw2] at hnx hit2 hown2 hb2
      have HI2 := hide hit2
      have HB2 := hide hb2
      have HO2 := hide hown2
      have HD3 := hide d3
      have HS : (w.heap.size ≤ w2.heap.size) ∧ w.heap.size + 1 < w2.heap.size := ⟨hb2.size, (Array.getElem?_eq_some_iff.1 hit2).1⟩
      have HSz := hide HS
      clear hr hd hw2 hit hown hb d3 hb2 hit2 hown2 HS
      by_cases hnl : r = 10
      · have h10 : ((r : Int) == 10) = true := by rw [beq_iff_eq]; omega
        have hd3 : byt s k = 10 ∧ d = 1 := by rcases HD3.out with h | h <;> omega
        have HT2 : Hid (D ++ [cutL s b k] ++ rest s (k + 1) = linesOf s) := hide (by rw [← HT.out, rest_nl s b k hbk hlt HN.out hd3.1]; simp)
        obtain rfl := hd3.2
        have hsl : ∀ wx : World, (Instr.slice 9 (.string s) (some (.int .i64 (b : Int))) (some (.int .i64 (k : Int))) none).run Tryd.prog wx = .ok (.string (s.extract b k)) wx := fun wx => by
          have := run_slice_string (P := Tryd.prog) wx 9 s .i64 .i64 (b : Int) (k : Int) Tryd.underlying9 (by omega) (by omega) (by omega)
          rw [this, Int.toNat_natCast, Int.toNat_natCast]
        clear hnl hd3
        have hB : w.heap.size ≤ w2.heap.size := HSz.out.1
        go_wp2_with (at_builtin; refine Hid.out ?_)
        refine hide ?_
        refine wpList_append_own _ rfl _ _ 50 rfl w.heap.size 9 i0 (.string ByteArray.empty) 1 16 Tryd.underlying50 hi hz0 hz1 hz2 rfl (by decide) _ _ _ rfl (HO2.out.alloc _) ⟨w2.heap.size, 0, none⟩ 1 1 [.string (s.extract b k)] rfl rfl ?c1 ?c2 ?c3 ?c4 ?c5 ?_
        case c1 => exact one_str _ _
        case c2 => intro u hu; simp at hu; subst hu; rfl
        case c3 => unfold maxLen; omega
        case c4 => omega
        case c5 => simp; omega
        intro v' w1 hown' hgrow _
        have hb1 : Below w.heap.size w w1 := below_grow HB2.out hB HO2.out ((Below.refl _ _).alloc hB _) hgrow
        have hit1 : w1.heap[w.heap.size + 1]? = some (.stringIter s (k + 1)) := by
          rw [hgrow.block (w.heap.size + 1) (by have := HSz.out.2; simp; omega) (own_noIter HO2.out HI2.out).symm, heap_alloc_old _ _ HSz.out.2]
          exact HI2.out
        have hown3 : w1.ownsRow w.heap.size 9 1 v' (D ++ [cutL s b k]).length (strVs (D ++ [cutL s b k])) := own_snocS rfl (by rw [strV_cut]; exact hown')
        clear hown' hgrow
        go_wp2_with fail
        go_roundg (gk - 1)
        case measure => have := HG.out; omega
        case rel => exact ⟨k + 1, k + 1, D ++ [cutL s b k], by omega, by omega, by go_num, by have := HG.out; omega, by simp; omega, hide (fun i h1 h2 => by omega), HT2, hown3, hb1, hit1⟩
      · have h10 : ((r : Int) == 10) = false := by rw [beq_eq_false_iff_ne]; omega
        have HN2 : Hid (∀ i, b ≤ i → i < k + d → byt s i ≠ 10) := hide (fun i h1 h2 => by
          by_cases e : i < k
          · exact HN.out i h1 e
          · rcases HD3.out with h | h
            · have : i = k := by omega
              subst this
              omega
            · have := h.2 i (by omega) h2
              omega)
        clear hnl
        go_wp2_with fail
        go_roundg (gk - d)
        case measure => have := HG.out; omega
        case rel => exact ⟨k + d, b, D, by omega, by omega, rfl, by have := HG.out; omega, by omega, HN2, HT, HO2.out, HB2.out, HI2.out⟩
    · obtain rfl : k = s.size := by omega
      have hnx := fun ty => Lib.run_next_end_at (P := Tryd.prog) wr (w.heap.size + 1) s s.size ty hit (Nat.lt_irrefl _)
      have HB2 := hide hb
      have HO2 := hide hown
      have hB : w.heap.size ≤ wr.heap.size := hb.size
      clear hb hown hit
      by_cases hw : b < s.size
      · have HT2 : Hid (D ++ [cutL s b s.size] = linesOf s) := hide (by rw [← HT.out, rest_end s b hw HN.out])
        have hsl : ∀ wx : World, (Instr.slice 9 (.string s) (some (.int .i64 (b : Int))) none none).run Tryd.prog wx = .ok (.string (s.extract b s.size)) wx := fun wx => by
          have := run_slice_string_from_if (P := Tryd.prog) wx 9 s .i64 (b : Int) Tryd.underlying9
          rw [this, if_pos ⟨by omega, by omega⟩, Int.toNat_natCast]
        have hbi : (b : Int) < (s.size : Int) := by omega
        clear hw
        go_wp2_with (at_builtin; refine wpList_append_own _ rfl _ _ 50 rfl w.heap.size 9 i0 (.string ByteArray.empty) 1 16 Tryd.underlying50 hi hz0 hz1 hz2 rfl (by decide) _ _ _ rfl (HO2.out.alloc _) ⟨wr.heap.size, 0, none⟩ 1 1 [.string (s.extract b s.size)] rfl rfl ?c1 ?c2 ?c3 ?c4 ?c5 ?_)
        case c1 => exact one_str _ _
        case c2 => intro u hu; simp at hu; subst hu; rfl
        case c3 => unfold maxLen; omega
        case c4 => omega
        case c5 => simp; omega
        intro v' w1 hown' hgrow _
        have hb1 : Below w.heap.size w w1 := below_grow HB2.out hB HO2.out ((Below.refl _ _).alloc hB _) hgrow
        have hown3 : w1.ownsRow w.heap.size 9 1 v' (D ++ [cutL s b s.size]).length (strVs (D ++ [cutL s b s.size])) := own_snocS rfl (by rw [strV_cut]; exact hown')
        clear hown' hgrow
        go_wp2_with fail
        go_ret
        refine ⟨_, rfl, ?_, hb1⟩
        rw [← HT2.out]
        exact hown3
      · obtain rfl : b = s.size := by omega
        have HT2 : Hid (D = linesOf s) := hide (by rw [← HT.out, rest_none, List.append_nil])
        clear hw
        go_wp2_with fail
        go_ret
        refine ⟨_, rfl, ?_, HB2.out⟩
        rw [← HT2.out]
        exact HO2.out
open Go.RowKit
set_option maxHeartbeats 4000000 in
set_option maxRecDepth 100000 in
theorem implEventOk_any (v : Value) (e : Evt) (h1 : e.key.size ≤ maxLen) (h2 : e.val.size ≤ maxLen) (h3 : e.left.length ≤ maxLen) (w : World) (hd : EvAt w v e) :
    Calls Tryd.prog 56 #[v] w fun r w' => r = .returned (.bool e.ok) ∧ Below w.heap.size w w' := by
  obtain ⟨a, cap, rfl, -⟩ := hd
  obtain ⟨kind, id, key, val, stage, lft, torn⟩ := e
  dsimp only at h1 h2 h3 ⊢
  unfold maxLen at h1 h2 h3
  have HOk : Hid (Evt.ok ⟨kind, id, key, val, stage, lft, torn⟩ = (decide (1 ≤ kind ∧ kind ≤ 10) && decide (1 ≤ id ∧ id ≤ 9) && decide (key.size ≤ 30) && decide (val.size ≤ 30) && decide (0 ≤ stage ∧ stage ≤ 1) && decide (lft.length ≤ 60) && decide (-1 ≤ torn ∧ torn ≤ 60))) := hide rfl
  obtain ⟨ok, hok⟩ : ∃ b, b = Evt.ok ⟨kind, id, key, val, stage, lft, torn⟩ := ⟨_, rfl⟩
  rw [← hok] at HOk ⊢
  obtain ⟨ll, hll⟩ : ∃ n, n = lft.length := ⟨_, rfl⟩
  rw [← hll] at HOk h3 ⊢
  clear hok hll
  by_cases g0 : kind < 1
  · have d0 : decide (kind < 1) = true := decide_eq_true (by omega)
    have HO : Hid (ok = false) := hide (by rw [HOk.out]; simp; omega)
    go_enter Tryd.func56, Tryd.ntmps56
    go_wp2
    go_ret
    rw [HO.out]
    exact ⟨rfl, (Below.refl _ _).alloc (Nat.le_refl _) _⟩
  have d0 : decide (kind < 1) = false := decide_eq_false (by omega)
  by_cases g1 : 10 < kind
  · have d1 : decide (10 < kind) = true := decide_eq_true (by omega)
    have HO : Hid (ok = false) := hide (by rw [HOk.out]; simp; omega)
    go_enter Tryd.func56, Tryd.ntmps56
    go_wp2
    go_ret
    rw [HO.out]
    exact ⟨rfl, (Below.refl _ _).alloc (Nat.le_refl _) _⟩
  have d1 : decide (10 < kind) = false := decide_eq_false (by omega)
  by_cases g2 : id < 1
  · have d2 : decide (id < 1) = true := decide_eq_true (by omega)
    have HO : Hid (ok = false) := hide (by rw [HOk.out]; simp; omega)
    go_enter Tryd.func56, Tryd.ntmps56
    go_wp2
    go_ret
    rw [HO.out]
    exact ⟨rfl, (Below.refl _ _).alloc (Nat.le_refl _) _⟩
  have d2 : decide (id < 1) = false := decide_eq_false (by omega)
  by_cases g3 : 9 < id
  · have d3 : decide (9 < id) = true := decide_eq_true (by omega)
    have HO : Hid (ok = false) := hide (by rw [HOk.out]; simp; omega)
    go_enter Tryd.func56, Tryd.ntmps56
    go_wp2
    go_ret
    rw [HO.out]
    exact ⟨rfl, (Below.refl _ _).alloc (Nat.le_refl _) _⟩
  have d3 : decide (9 < id) = false := decide_eq_false (by omega)
  by_cases g4 : 30 < key.size
  · have d4 : decide ((30 : Int) < (key.size : Int)) = true := decide_eq_true (by omega)
    have HO : Hid (ok = false) := hide (by rw [HOk.out]; simp; omega)
    go_enter Tryd.func56, Tryd.ntmps56
    go_wp2
    go_ret
    rw [HO.out]
    exact ⟨rfl, (Below.refl _ _).alloc (Nat.le_refl _) _⟩
  have d4 : decide ((30 : Int) < (key.size : Int)) = false := decide_eq_false (by omega)
  by_cases g5 : 30 < val.size
  · have d5 : decide ((30 : Int) < (val.size : Int)) = true := decide_eq_true (by omega)
    have HO : Hid (ok = false) := hide (by rw [HOk.out]; simp; omega)
    go_enter Tryd.func56, Tryd.ntmps56
    go_wp2
    go_ret
    rw [HO.out]
    exact ⟨rfl, (Below.refl _ _).alloc (Nat.le_refl _) _⟩
  have d5 : decide ((30 : Int) < (val.size : Int)) = false := decide_eq_false (by omega)
  by_cases g6 : stage = 0 ∨ stage = 1
  rotate_left
  · have d6 : (stage == 0) = false := by simp; omega
    have d7 : (stage == 1) = false := by simp; omega
    have HO : Hid (ok = false) := hide (by rw [HOk.out]; simp; omega)
    go_enter Tryd.func56, Tryd.ntmps56
    go_wp2
    go_ret
    rw [HO.out]
    exact ⟨rfl, (Below.refl _ _).alloc (Nat.le_refl _) _⟩
  rcases g6 with rfl | rfl
  · have d6 : ((0 : Int) == 0) = true := rfl
    by_cases g7 : ll ≤ 60
    rotate_left
    · have d8 : decide ((ll : Int) ≤ 60) = false := decide_eq_false (by omega)
      have HO : Hid (ok = false) := hide (by rw [HOk.out]; simp; omega)
      go_enter Tryd.func56, Tryd.ntmps56
      go_wp2
      go_ret
      rw [HO.out]
      exact ⟨rfl, (Below.refl _ _).alloc (Nat.le_refl _) _⟩
    have d8 : decide ((ll : Int) ≤ 60) = true := decide_eq_true (by omega)
    by_cases g8 : -1 ≤ torn
    rotate_left
    · have d9 : decide (-1 ≤ torn) = false := decide_eq_false (by omega)
      have HO : Hid (ok = false) := hide (by rw [HOk.out]; simp; omega)
      go_enter Tryd.func56, Tryd.ntmps56
      go_wp2
      go_ret
      rw [HO.out]
      exact ⟨rfl, (Below.refl _ _).alloc (Nat.le_refl _) _⟩
    have d9 : decide (-1 ≤ torn) = true := decide_eq_true (by omega)
    by_cases g9 : torn ≤ 60
    rotate_left
    · have d10 : decide (torn ≤ 60) = false := decide_eq_false (by omega)
      have HO : Hid (ok = false) := hide (by rw [HOk.out]; simp; omega)
      go_enter Tryd.func56, Tryd.ntmps56
      go_wp2
      go_ret
      rw [HO.out]
      exact ⟨rfl, (Below.refl _ _).alloc (Nat.le_refl _) _⟩
    have d10 : decide (torn ≤ 60) = true := decide_eq_true (by omega)
    have HO : Hid (ok = true) := hide (by rw [HOk.out]; simp; omega)
    go_enter Tryd.func56, Tryd.ntmps56
    go_wp2
    go_ret
    rw [HO.out]
    exact ⟨rfl, (Below.refl _ _).alloc (Nat.le_refl _) _⟩
  · have d6 : ((1 : Int) == 0) = false := rfl
    have d7 : ((1 : Int) == 1) = true := rfl
    by_cases g7 : ll ≤ 60
    rotate_left
    · have d8 : decide ((ll : Int) ≤ 60) = false := decide_eq_false (by omega)
      have HO : Hid (ok = false) := hide (by rw [HOk.out]; simp; omega)
      go_enter Tryd.func56, Tryd.ntmps56
      go_wp2
      go_ret
      rw [HO.out]
      exact ⟨rfl, (Below.refl _ _).alloc (Nat.le_refl _) _⟩
    have d8 : decide ((ll : Int) ≤ 60) = true := decide_eq_true (by omega)
    by_cases g8 : -1 ≤ torn
    rotate_left
    · have d9 : decide (-1 ≤ torn) = false := decide_eq_false (by omega)
      have HO : Hid (ok = false) := hide (by rw [HOk.out]; simp; omega)
      go_enter Tryd.func56, Tryd.ntmps56
      go_wp2
      go_ret
      rw [HO.out]
      exact ⟨rfl, (Below.refl _ _).alloc (Nat.le_refl _) _⟩
    have d9 : decide (-1 ≤ torn) = true := decide_eq_true (by omega)
    by_cases g9 : torn ≤ 60
    rotate_left
    · have d10 : decide (torn ≤ 60) = false := decide_eq_false (by omega)
      have HO : Hid (ok = false) := hide (by rw [HOk.out]; simp; omega)
      go_enter Tryd.func56, Tryd.ntmps56
      go_wp2
      go_ret
      rw [HO.out]
      exact ⟨rfl, (Below.refl _ _).alloc (Nat.le_refl _) _⟩
    have d10 : decide (torn ≤ 60) = true := decide_eq_true (by omega)
    have HO : Hid (ok = true) := hide (by rw [HOk.out]; simp; omega)
    go_enter Tryd.func56, Tryd.ntmps56
    go_wp2
    go_ret
    rw [HO.out]
    exact ⟨rfl, (Below.refl _ _).alloc (Nat.le_refl _) _⟩
open Go.RowKit
def EvV (B : Nat) (W : World) (g : Nat) (e : Evt) (u : Value) : Prop :=
  B ≤ g ∧ W.heap[g]? = some (.cells (ev7 (e, u)).toArray 35 (0, 0)) ∧ W.ownsRow B 4 1 u e.left.length (bools e.left)
theorem EvV.lt {B : Nat} {W : World} {g : Nat} {e : Evt} {u : Value} (h : EvV B W g e u) : g < W.heap.size := (Array.getElem?_eq_some_iff.1 h.2.1).1
theorem EvV.cell {B : Nat} {W : World} {g : Nat} {e : Evt} {u : Value} (h : EvV B W g e u) (j : Nat) : W.cell? ⟨g, j, none⟩ = (ev7 (e, u)).toArray[j]? := Lib.cell_of_heap h.2.1 j
theorem EvV.froz {B : Nat} {W : World} {g : Nat} {e : Evt} {u : Value} (h : EvV B W g e u) (j : Nat) : W.frozen? ⟨g, j, none⟩ = false := Lib.frozen_of_heap h.2.1 j
theorem EvV.stays {B : Nat} {W W' : World} {g : Nat} {e : Evt} {u : Value} (h : EvV B W g e u) (hb : Below W.heap.size W W') : EvV B W' g e u := ⟨h.1, (hb.block g h.lt).trans h.2.1, own_stays h.2.2 hb⟩
theorem own_noEv {w : World} {B n g : Nat} {v : Value} {xs : List Value} {cs : Array Value} {fz : Nat × Nat} (h : w.ownsRow B 4 1 v n xs) (hg : w.heap[g]? = some (.cells cs 35 fz)) : v.ownBlock ≠ some g := by
  rcases h.2 with ⟨rfl, _⟩ | ⟨g', cap, cur, rfl, _, hgg, _⟩
  · simp [Value.ownBlock]
  · simp [Value.ownBlock]
    rintro rfl
    rw [hgg] at hg
    simp at hg
theorem EvV.set {B : Nat} {W : World} {g : Nat} {e e' : Evt} {u u' : Value} (h : EvV B W g e u) (hu : W.ownsRow B 4 1 u' e'.left.length (bools e'.left)) (j : Nat) (x : Value) (hs : (ev7 (e, u)).set j x = ev7 (e', u')) : EvV B (W.setCell ⟨g, j, none⟩ x) g e' u' := by
  refine ⟨h.1, ?_, ?_⟩
  · have h2 := h.2.1
    simp only [World.setCell, Array.getElem?_modify, h2, if_true, Option.map_some]
    rw [← hs]
    simp
  · refine hu.kept (row := some g) ⟨rfl, rfl, rfl, by simp [World.setCell], fun k _ hk => Below.heap_setCell _ _ _ _ (fun e => hk (by simp [e]))⟩ (Or.inr (own_noEv hu h.2.1))
theorem EvV.setB {B : Nat} {W : World} {g : Nat} {e : Evt} {u : Value} (h : EvV B W g e u) (j : Nat) (x : Value) : Below B W (W.setCell ⟨g, j, none⟩ x) := (Below.refl B W).setCell (p := ⟨g, j, none⟩) h.1 x
set_option maxHeartbeats 1000000 in
set_option maxRecDepth 100000 in
theorem readKey_any (x : ByteArray) (B g : Nat) (e : Evt) (u : Value) (W : World) (h : EvV B W g e u) :
    Calls Tryd.prog 70 #[.pointer (some ⟨g, 0, none⟩), .string x] W fun r w' => r = .returned (.bool true) ∧ EvV B w' g { e with key := x } u ∧ Below B W w' := by
  have c2 := h.cell 2
  have f2 := h.froz 2
  have HE := hide (h.set (e' := { e with key := x }) h.2.2 2 (.string x) rfl)
  have HB := hide (h.setB 2 (.string x))
  clear h
  go_enter Tryd.func70, Tryd.ntmps70
  go_wp2_with fail
  go_ret
  exact ⟨rfl, HE.out, HB.out⟩
set_option maxHeartbeats 1000000 in
set_option maxRecDepth 100000 in
theorem readVal_any (x : ByteArray) (B g : Nat) (e : Evt) (u : Value) (W : World) (h : EvV B W g e u) :
    Calls Tryd.prog 71 #[.pointer (some ⟨g, 0, none⟩), .string x] W fun r w' => r = .returned (.bool true) ∧ EvV B w' g { e with val := x } u ∧ Below B W w' := by
  have c3 := h.cell 3
  have f3 := h.froz 3
  have HE := hide (h.set (e' := { e with val := x }) h.2.2 3 (.string x) rfl)
  have HB := hide (h.setB 3 (.string x))
  clear h
  go_enter Tryd.func71, Tryd.ntmps71
  go_wp2_with fail
  go_ret
  exact ⟨rfl, HE.out, HB.out⟩
def RdPost (B g : Nat) (W : World) (r : Option Evt) (e : Ending) (w' : World) : Prop := (match r with | none => e = .returned (.bool false) | some ev => e = .returned (.bool true) ∧ ∃ u, EvV B w' g ev u) ∧ Below B W w'
set_option maxHeartbeats 1000000 in
set_option maxRecDepth 100000 in
theorem readId_any (x : List UInt8) (hx : x.length ≤ 1048576) (B g : Nat) (e : Evt) (u : Value) (W : World) (h : EvV B W g e u) :
    Calls Tryd.prog 72 #[.pointer (some ⟨g, 0, none⟩), .string (ba x)] W (RdPost B g W ((decO x).map fun n => { e with id := n })) := by
  have HR := hide (implReadDecimal_any (ba x) (by rw [ba_size]; exact hx) W)
  have HH := hide h
  clear h
  go_enter Tryd.func72, Tryd.ntmps72
  go_wp2_with fail
  refine HR.out.mono ?_
  rintro r w1 ⟨hy, hno, hb⟩
  have h1 := HH.out.stays hb
  have HB1 := hide (hb.mono (Nat.le_of_lt (Nat.lt_of_le_of_lt HH.out.1 HH.out.lt)))
  have c1 := h1.cell 1
  have f1 := h1.froz 1
  have HE := hide (fun n : Int => (⟨h1.set (e' := { e with id := n }) h1.2.2 1 (.int .i64 n) rfl, h1.setB 1 (.int .i64 n)⟩ : _ ∧ _))
  clear hb h1
  by_cases hok : okD (ba x)
  · have HD := hide (dec_yes hok)
    obtain rfl := hy hok
    clear hy hno hok
    go_wp2_with fail
    go_ret
    rw [HD.out]
    exact ⟨⟨rfl, u, (HE.out _).1⟩, HB1.out.trans (HE.out _).2⟩
  · have HD := hide (dec_no hok)
    obtain rfl := hno hok
    clear hy hno hok
    go_wp2_with fail
    go_ret
    rw [HD.out]
    exact ⟨rfl, HB1.out.trans (HE.out _).2⟩
set_option maxHeartbeats 1000000 in
set_option maxRecDepth 100000 in
theorem readStage_any (x : List UInt8) (hx : x.length ≤ 1048576) (B g : Nat) (e : Evt) (u : Value) (W : World) (h : EvV B W g e u) :
    Calls Tryd.prog 73 #[.pointer (some ⟨g, 0, none⟩), .string (ba x)] W (RdPost B g W ((decO x).map fun n => { e with stage := n })) := by
  have HR := hide (implReadDecimal_any (ba x) (by rw [ba_size]; exact hx) W)
  have HH := hide h
  clear h
  go_enter Tryd.func73, Tryd.ntmps73
  go_wp2_with fail
  refine HR.out.mono ?_
  rintro r w1 ⟨hy, hno, hb⟩
  have h1 := HH.out.stays hb
  have HB1 := hide (hb.mono (Nat.le_of_lt (Nat.lt_of_le_of_lt HH.out.1 HH.out.lt)))
  have c1 := h1.cell 4
  have f1 := h1.froz 4
  have HE := hide (fun n : Int => (⟨h1.set (e' := { e with stage := n }) h1.2.2 4 (.int .i64 n) rfl, h1.setB 4 (.int .i64 n)⟩ : _ ∧ _))
  clear hb h1
  by_cases hok : okD (ba x)
  · have HD := hide (dec_yes hok)
    obtain rfl := hy hok
    clear hy hno hok
    go_wp2_with fail
    go_ret
    rw [HD.out]
    exact ⟨⟨rfl, u, (HE.out _).1⟩, HB1.out.trans (HE.out _).2⟩
  · have HD := hide (dec_no hok)
    obtain rfl := hno hok
    clear hy hno hok
    go_wp2_with fail
    go_ret
    rw [HD.out]
    exact ⟨rfl, HB1.out.trans (HE.out _).2⟩
end Go.Proofs.YtmmepgincbngeaaDoor
