/-
  The program's keys (markedKey, SchemaKey, ThingKey, IndexKey), CollOk and NameKey, and the specification's, by contracts.
-/
import Derived.Test.YtjldcbnoomcloaaNames
import Derived.Test.YtjldcbnoomcloaaShelfJoin
namespace Go.Proofs.Ytjldcbnoomcloaa
open Go.RowKit

/-- the byte s and a collection -/
def schK (c : ByteArray) : ByteArray := ⟨#[115]⟩ ++ c

/-- the byte o, a collection, the byte 0, a key -/
def thgK (c k : ByteArray) : ByteArray := ⟨#[111]⟩ ++ c ++ ⟨#[0]⟩ ++ k

/-- the byte i, a collection, the byte 0, a field, the byte 0, an order, a key -/
def idxK (c f o k : ByteArray) : ByteArray := ⟨#[105]⟩ ++ c ++ ⟨#[0]⟩ ++ f ++ ⟨#[0]⟩ ++ o ++ k

theorem ba_of (l : List UInt8) (J : ByteArray) (h : l = J.data.toList) : (⟨l.toArray⟩ : ByteArray) = J := by
  cases J with | mk d => subst h; simp

theorem ba_list (a b : ByteArray) : (a ++ b).data.toList = a.data.toList ++ b.data.toList := by simp

theorem join_1 (x : ByteArray) : (⟨(Lib.join ([x].map (·.data.toList)) (⟨#[0]⟩ : ByteArray).data.toList).toArray⟩ : ByteArray) = x :=
  ba_of _ _ (by simp [Lib.join, List.intercalate])

theorem join_2 (x y : ByteArray) : (⟨(Lib.join ([x, y].map (·.data.toList)) (⟨#[0]⟩ : ByteArray).data.toList).toArray⟩ : ByteArray) = x ++ ⟨#[0]⟩ ++ y :=
  ba_of _ _ (by rw [ba_list, ba_list]; simp [Lib.join, List.intercalate])

theorem join_3 (x y z : ByteArray) : (⟨(Lib.join ([x, y, z].map (·.data.toList)) (⟨#[0]⟩ : ByteArray).data.toList).toArray⟩ : ByteArray) = x ++ ⟨#[0]⟩ ++ y ++ ⟨#[0]⟩ ++ z :=
  ba_of _ _ (by rw [ba_list, ba_list, ba_list, ba_list]; simp [Lib.join, List.intercalate])

theorem size_of {l : List UInt8} {J : ByteArray} (h : (⟨l.toArray⟩ : ByteArray) = J) : l.length = J.size := by
  subst h; simp [ByteArray.size]

theorem ba_assoc (a b c : ByteArray) : a ++ (b ++ c) = a ++ b ++ c := by
  rw [ByteArray.append_assoc]

theorem markedKey_any (m : ByteArray) (bk o c : Nat) (xs : List ByteArray) (J : ByteArray) (w : World) (hcells : ∀ (j : Nat) x, xs[j]? = some x → w.cell? ⟨bk, o + j, none⟩ = some (.string x))
    (hbk : bk < w.heap.size) (hN : xs.length ≤ 1000) (hcap : xs.length ≤ c) (hJ : (⟨(Lib.join (xs.map (·.data.toList)) (⟨#[0]⟩ : ByteArray).data.toList).toArray⟩ : ByteArray) = J) (hs : J.size ≤ 10000000) (hm : m.size ≤ 10) :
    Calls Try.prog 99 #[.string m, .slice (some ⟨bk, o, none⟩) xs.length c] w fun e w' => e = .returned (.string (m ++ J)) ∧ Below w.heap.size w w' := by
  have HC := hide (Try.strings_Join bk o c xs ⟨#[0]⟩ w hcells hbk (by omega) hcap (by rw [size_of hJ]; omega))
  rw [hJ] at HC
  have ha : ∀ wx : World, (Op.stringOp .add m J).run Try.prog wx = .ok (.string (m ++ J)) wx := fun wx => run_string_add_sum wx _ _ (by omega)
  clear hcells hbk hcap hJ
  obtain ⟨n, hn⟩ : ∃ n, n = xs.length := ⟨_, rfl⟩
  rw [← hn] at HC hN ⊢
  clear hn
  go_enter Try.func99, Try.ntmps99
  go_wp2_with (go_at_call 109; refine HC.out.mono ?_; rintro e w1 ⟨rfl, hb⟩; have HB := hide hb; clear hb)
  go_ret
  exact ⟨rfl, HB.out⟩

theorem implSchemaKey_any (c : ByteArray) (hc : c.size ≤ 1048576) (w : World) :
    Calls Try.prog 62 #[.string c] w fun e w' => e = .returned (.string (schK c)) ∧ Below w.heap.size w w' := by
  obtain ⟨w0, hw0⟩ : ∃ w0, w0 = w.alloc (Obj.cells #[.string c] 9) := ⟨_, rfl⟩
  have hblk : w0.heap[w.heap.size]? = some (Obj.cells #[.string c] 9) := by rw [hw0]; exact heap_alloc_new w _
  have HB : Hid (Below w.heap.size w w0) := hide (by rw [hw0]; exact (Below.refl w.heap.size w).alloc (Nat.le_refl _) _)
  have hsz : w0.heap.size = w.heap.size + 1 := by rw [hw0]; simp
  have HC := hide (markedKey_any ⟨#[115]⟩ w.heap.size 0 1 [c] c w0 (fun j x h => by
    match j, h with
    | 0, h => cases h; exact (cell_at hblk 0).1) (by omega) (by simp) (by simp) (join_1 c) (by omega) (by decide))
  rw [hw0] at HC HB
  clear hw0 hblk hsz
  go_enter Try.func62, Try.ntmps62
  go_wp2_with (go_at_call 99; refine HC.out.mono ?_; rintro e w1 ⟨rfl, hb⟩; have HB1 := hide hb; clear hb)
  go_ret
  exact ⟨rfl, HB.out.trans (HB1.out.mono HB.out.size)⟩

theorem implThingKey_any (c k : ByteArray) (hc : c.size ≤ 1048576) (hk : k.size ≤ 1048576) (w : World) :
    Calls Try.prog 64 #[.string c, .string k] w fun e w' => e = .returned (.string (thgK c k)) ∧ Below w.heap.size w w' := by
  obtain ⟨w0, hw0⟩ : ∃ w0, w0 = w.alloc (Obj.cells #[.string c, .string k] 9) := ⟨_, rfl⟩
  have hblk : w0.heap[w.heap.size]? = some (Obj.cells #[.string c, .string k] 9) := by rw [hw0]; exact heap_alloc_new w _
  have HB : Hid (Below w.heap.size w w0) := hide (by rw [hw0]; exact (Below.refl w.heap.size w).alloc (Nat.le_refl _) _)
  have hsz : w0.heap.size = w.heap.size + 1 := by rw [hw0]; simp
  have HC := hide (markedKey_any ⟨#[111]⟩ w.heap.size 0 2 [c, k] (c ++ ⟨#[0]⟩ ++ k) w0 (fun j x h => by
    match j, h with
    | 0, h => cases h; exact (cell_at hblk 0).1
    | 1, h => cases h; exact (cell_at hblk 1).1) (by omega) (by simp) (by simp) (join_2 c k) (by rw [ByteArray.size_append, ByteArray.size_append]; show c.size + 1 + k.size ≤ _; omega) (by decide))
  rw [hw0] at HC HB
  clear hw0 hblk hsz
  have HE : Hid ((⟨#[111]⟩ : ByteArray) ++ (c ++ ⟨#[0]⟩ ++ k) = thgK c k) := hide (by rw [thgK, ba_assoc, ba_assoc])
  go_enter Try.func64, Try.ntmps64
  go_wp2_with (go_at_call 99; refine HC.out.mono ?_; rintro e w1 ⟨rfl, hb⟩; have HB1 := hide hb; clear hb)
  go_ret
  rw [← HE.out]
  exact ⟨rfl, HB.out.trans (HB1.out.mono HB.out.size)⟩

theorem implIndexKey_any (c f o k : ByteArray) (hc : c.size ≤ 1048576) (hf : f.size ≤ 1048576) (ho : o.size ≤ 1048576) (hk : k.size ≤ 1048576) (w : World) :
    Calls Try.prog 66 #[.string c, .string f, .string o, .string k] w fun e w' => e = .returned (.string (idxK c f o k)) ∧ Below w.heap.size w w' := by
  have ha : ∀ wx : World, (Op.stringOp .add o k).run Try.prog wx = .ok (.string (o ++ k)) wx := fun wx => run_string_add_sum wx _ _ (by omega)
  obtain ⟨w0, hw0⟩ : ∃ w0, w0 = w.alloc (Obj.cells #[.string c, .string f, .string (o ++ k)] 9) := ⟨_, rfl⟩
  have hblk : w0.heap[w.heap.size]? = some (Obj.cells #[.string c, .string f, .string (o ++ k)] 9) := by rw [hw0]; exact heap_alloc_new w _
  have HB : Hid (Below w.heap.size w w0) := hide (by rw [hw0]; exact (Below.refl w.heap.size w).alloc (Nat.le_refl _) _)
  have hsz : w0.heap.size = w.heap.size + 1 := by rw [hw0]; simp
  have HC := hide (markedKey_any ⟨#[105]⟩ w.heap.size 0 3 [c, f, o ++ k] (c ++ ⟨#[0]⟩ ++ f ++ ⟨#[0]⟩ ++ (o ++ k)) w0 (fun j x h => by
    match j, h with
    | 0, h => cases h; exact (cell_at hblk 0).1
    | 1, h => cases h; exact (cell_at hblk 1).1
    | 2, h => cases h; exact (cell_at hblk 2).1) (by omega) (by simp) (by simp) (join_3 c f (o ++ k)) (by rw [ByteArray.size_append, ByteArray.size_append, ByteArray.size_append, ByteArray.size_append, ByteArray.size_append]; show c.size + 1 + f.size + 1 + (o.size + k.size) ≤ _; omega) (by decide))
  rw [hw0] at HC HB
  clear hw0 hblk hsz
  have HE : Hid ((⟨#[105]⟩ : ByteArray) ++ (c ++ ⟨#[0]⟩ ++ f ++ ⟨#[0]⟩ ++ (o ++ k)) = idxK c f o k) := hide (by rw [idxK, ba_assoc, ba_assoc, ba_assoc, ba_assoc, ba_assoc])
  go_enter Try.func66, Try.ntmps66
  go_wp2_with (go_at_call 99; refine HC.out.mono ?_; rintro e w1 ⟨rfl, hb⟩; have HB1 := hide hb; clear hb)
  go_ret
  rw [← HE.out]
  exact ⟨rfl, HB.out.trans (HB1.out.mono HB.out.size)⟩

theorem specSchemaKey_any (c : ByteArray) (hc : c.size ≤ 1048576) (w : World) :
    Calls Try.prog 61 #[.string c] w fun e w' => e = .returned (.string (schK c)) ∧ w = w' := by
  have ha : ∀ wx : World, (Op.stringOp .add ⟨#[115]⟩ c).run Try.prog wx = .ok (.string (⟨#[115]⟩ ++ c)) wx := fun wx => run_string_add_sum wx _ _ (by show 1 + c.size ≤ _; omega)
  go_enter Try.func61, Try.ntmps61
  go_wp2
  go_ret
  exact ⟨rfl, rfl⟩

theorem specThingKey_any (c k : ByteArray) (hc : c.size ≤ 1048576) (hk : k.size ≤ 1048576) (w : World) :
    Calls Try.prog 63 #[.string c, .string k] w fun e w' => e = .returned (.string (thgK c k)) ∧ w = w' := by
  have ha1 : ∀ wx : World, (Op.stringOp .add ⟨#[111]⟩ c).run Try.prog wx = .ok (.string (⟨#[111]⟩ ++ c)) wx := fun wx => run_string_add_sum wx _ _ (by show 1 + c.size ≤ _; omega)
  have ha2 : ∀ wx : World, (Op.stringOp .add (⟨#[111]⟩ ++ c) ⟨#[0]⟩).run Try.prog wx = .ok (.string (⟨#[111]⟩ ++ c ++ ⟨#[0]⟩)) wx := fun wx => run_string_add_sum wx _ _ (by rw [ByteArray.size_append]; show 1 + c.size + 1 ≤ _; omega)
  have ha3 : ∀ wx : World, (Op.stringOp .add (⟨#[111]⟩ ++ c ++ ⟨#[0]⟩) k).run Try.prog wx = .ok (.string (⟨#[111]⟩ ++ c ++ ⟨#[0]⟩ ++ k)) wx := fun wx => run_string_add_sum wx _ _ (by rw [ByteArray.size_append, ByteArray.size_append]; show 1 + c.size + 1 + k.size ≤ _; omega)
  go_enter Try.func63, Try.ntmps63
  go_wp2
  go_ret
  exact ⟨rfl, rfl⟩

theorem specIndexKey_any (c f o k : ByteArray) (hc : c.size ≤ 1048576) (hf : f.size ≤ 1048576) (ho : o.size ≤ 1048576) (hk : k.size ≤ 1048576) (w : World) :
    Calls Try.prog 65 #[.string c, .string f, .string o, .string k] w fun e w' => e = .returned (.string (idxK c f o k)) ∧ w = w' := by
  have ha1 : ∀ wx : World, (Op.stringOp .add ⟨#[105]⟩ c).run Try.prog wx = .ok (.string (⟨#[105]⟩ ++ c)) wx := fun wx => run_string_add_sum wx _ _ (by show 1 + c.size ≤ _; omega)
  have ha2 : ∀ wx : World, (Op.stringOp .add (⟨#[105]⟩ ++ c) ⟨#[0]⟩).run Try.prog wx = .ok (.string (⟨#[105]⟩ ++ c ++ ⟨#[0]⟩)) wx := fun wx => run_string_add_sum wx _ _ (by rw [ByteArray.size_append]; show 1 + c.size + 1 ≤ _; omega)
  have ha3 : ∀ wx : World, (Op.stringOp .add (⟨#[105]⟩ ++ c ++ ⟨#[0]⟩) f).run Try.prog wx = .ok (.string (⟨#[105]⟩ ++ c ++ ⟨#[0]⟩ ++ f)) wx := fun wx => run_string_add_sum wx _ _ (by rw [ByteArray.size_append, ByteArray.size_append]; show 1 + c.size + 1 + f.size ≤ _; omega)
  have ha4 : ∀ wx : World, (Op.stringOp .add (⟨#[105]⟩ ++ c ++ ⟨#[0]⟩ ++ f) ⟨#[0]⟩).run Try.prog wx = .ok (.string (⟨#[105]⟩ ++ c ++ ⟨#[0]⟩ ++ f ++ ⟨#[0]⟩)) wx := fun wx => run_string_add_sum wx _ _ (by rw [ByteArray.size_append, ByteArray.size_append, ByteArray.size_append]; show 1 + c.size + 1 + f.size + 1 ≤ _; omega)
  have ha5 : ∀ wx : World, (Op.stringOp .add (⟨#[105]⟩ ++ c ++ ⟨#[0]⟩ ++ f ++ ⟨#[0]⟩) o).run Try.prog wx = .ok (.string (⟨#[105]⟩ ++ c ++ ⟨#[0]⟩ ++ f ++ ⟨#[0]⟩ ++ o)) wx := fun wx => run_string_add_sum wx _ _ (by rw [ByteArray.size_append, ByteArray.size_append, ByteArray.size_append, ByteArray.size_append]; show 1 + c.size + 1 + f.size + 1 + o.size ≤ _; omega)
  have ha6 : ∀ wx : World, (Op.stringOp .add (⟨#[105]⟩ ++ c ++ ⟨#[0]⟩ ++ f ++ ⟨#[0]⟩ ++ o) k).run Try.prog wx = .ok (.string (⟨#[105]⟩ ++ c ++ ⟨#[0]⟩ ++ f ++ ⟨#[0]⟩ ++ o ++ k)) wx := fun wx => run_string_add_sum wx _ _ (by rw [ByteArray.size_append, ByteArray.size_append, ByteArray.size_append, ByteArray.size_append, ByteArray.size_append]; show 1 + c.size + 1 + f.size + 1 + o.size + k.size ≤ _; omega)
  go_enter Try.func65, Try.ntmps65
  go_wp2
  go_ret
  exact ⟨rfl, rfl⟩

theorem implCollOk_any (c : ByteArray) (hc : c.size ≤ 1048576) (w : World) :
    Calls Try.prog 58 #[.string c] w fun e w' => e = .returned (.bool (wordB c 3)) ∧ w = w' := by
  have HC := hide (isName_letter c hc 3)
  rw [name_word] at HC
  go_enter Try.func58, Try.ntmps58
  go_wp2_with (go_at_call 96; refine (HC.out _).mono ?_; rintro e w1 ⟨rfl, rfl⟩)
  go_ret
  exact ⟨rfl, rfl⟩

theorem specCollOk_any (c : ByteArray) (hc : c.size ≤ 1048576) (w : World) :
    Calls Try.prog 57 #[.string c] w fun e w' => e = .returned (.bool (wordB c 3)) ∧ w = w' := by
  have HC := hide (l04Word_any c hc 3)
  go_enter Try.func57, Try.ntmps57
  go_wp2_with (go_at_call 75; refine (HC.out _).mono ?_; rintro e w1 ⟨rfl, rfl⟩)
  go_ret
  exact ⟨rfl, rfl⟩

theorem implNameKey_any (c : ByteArray) (hc : c.size ≤ 1048576) (w : World) :
    Calls Try.prog 60 #[.string c] w fun e w' => e = .returned (.bool (nameB sigB c 4)) ∧ w = w' := by
  have HC := hide (isName_sign c hc 4)
  go_enter Try.func60, Try.ntmps60
  go_wp2_with (go_at_call 96; refine (HC.out _).mono ?_; rintro e w1 ⟨rfl, rfl⟩)
  go_ret
  exact ⟨rfl, rfl⟩

end Go.Proofs.Ytjldcbnoomcloaa
