/-
  What one round of spec.ReadNode reads, by the cursor's contracts; how it ends. (Written by tools/snode.py.)
-/
import Derived.Test.YtdcmpjefemcppaaGreatDoorCur
import Derived.Test.YtdcmpjefemcppaaGreatDoorNodeGrow
import Derived.Test.YtdcmpjefemcppaaGreatDoorNodeSpec2
import Derived.Deep.RegionLaw
namespace Go.Proofs.YtdcmpjefemcppaaGreatDoor
open Go.RowKit

theorem grown_dr2 {a b : World} {r : Option Nat} (h : a.grownBy b r) : a.grownBy b.drew r := grown_trans h ⟨rfl, rfl, rfl, Nat.le_refl _, fun _ _ _ => rfl⟩

theorem curT_low {w w' : World} {g gn p : Nat} {t : ByteArray} {bad : Bool} (h : CurT w g t p bad) (hb : Below gn w w') (hlt : g < gn) : CurT w' g t p bad := (hb.block g hlt).trans h

/-- the answer of spec.ReadNode -/
def RsPost (w : World) (t : ByteArray) (e : Ending) (w' : World) : Prop :=
  ∃ n v ok, e = .returned (.tuple #[v, .bool ok]) ∧ ReadN t n ok ∧ NodeOwn w' w.heap.size v n.lf n.ks n.vs n.cs ∧ Below w.heap.size w w'

theorem round_V (g : Nat) {s : ByteArray} (hs : s.size ≤ 1048576) {cnt : Nat} {n : Nd} {p : Nat} (h : NTry s cnt n p) (he : n.even) (hk : n.ks.length < cnt) (hl : n.lf = true) : ∃ (x : ByteArray) (q : Nat) (b1 : Bool) (y : ByteArray) (r : Nat) (b2 : Bool),
    (∀ wx, CurT wx g s p false → Calls Tryz.prog 38 #[.pointer (some ⟨g, 0, none⟩)] wx fun e w' => e = .returned (.string x) ∧ CurT w' g s q b1 ∧ wx.grownBy w' (some g)) ∧
    (∀ wx, CurT wx g s q b1 → Calls Tryz.prog 38 #[.pointer (some ⟨g, 0, none⟩)] wx fun e w' => e = .returned (.string y) ∧ CurT w' g s r b2 ∧ wx.grownBy w' (some g)) ∧
    x.size ≤ 20000 ∧ y.size ≤ 20000 ∧ (b2 = false → NTry s cnt (n.snocV x y) r) ∧ (b2 = true → ∀ m, ¬ IsIn s m) := by
  cases ho : rdS s p with
  | none => exact ⟨⟨#[]⟩, p, true, ⟨#[]⟩, p, true, fun wx hc => l04ReadShort_bad g s hs p false (Or.inr ho) wx hc, fun wx hc => l04ReadShort_bad g s hs p true (Or.inl rfl) wx hc, Nat.zero_le _, Nat.zero_le _, (fun e => by cases e), fun _ => nt_nokey h he hk ho⟩
  | some r1 =>
    obtain ⟨x, q⟩ := r1
    cases ho2 : rdS s q with
    | none => exact ⟨x, q, false, ⟨#[]⟩, q, true, fun wx hc => l04ReadShort_good g s hs p x q ho wx hc, fun wx hc => l04ReadShort_bad g s hs q false (Or.inr ho2) wx hc, (rdS_back ho).2.2.1, Nat.zero_le _, (fun e => by cases e), fun _ => nt_noval h he hk hl ho ho2⟩
    | some r2 =>
      obtain ⟨y, r⟩ := r2
      exact ⟨x, q, false, y, r, false, fun wx hc => l04ReadShort_good g s hs p x q ho wx hc, fun wx hc => l04ReadShort_good g s hs q y r ho2 wx hc, (rdS_back ho).2.2.1, (rdS_back ho2).2.2.1, fun _ => nt_val h he hk hl ho ho2, (fun e => by cases e)⟩

theorem round_C (g : Nat) {s : ByteArray} (hs : s.size ≤ 1048576) {cnt : Nat} {n : Nd} {p : Nat} (h : NTry s cnt n p) (he : n.even) (hk : n.ks.length < cnt) (hl : n.lf = false) : ∃ (x : ByteArray) (q : Nat) (b1 : Bool) (y : Nat) (r : Nat) (b2 : Bool),
    (∀ wx, CurT wx g s p false → Calls Tryz.prog 38 #[.pointer (some ⟨g, 0, none⟩)] wx fun e w' => e = .returned (.string x) ∧ CurT w' g s q b1 ∧ wx.grownBy w' (some g)) ∧
    (∀ wx, CurT wx g s q b1 → Calls Tryz.prog 37 #[.pointer (some ⟨g, 0, none⟩)] wx fun e w' => e = .returned (.int .i64 (y : Int)) ∧ CurT w' g s r b2 ∧ wx.grownBy w' (some g)) ∧
    x.size ≤ 20000 ∧ y ≤ 1000000000 ∧ (b2 = false → NTry s cnt (n.snocC x y) r) ∧ (b2 = true → ∀ m, ¬ IsIn s m) := by
  cases ho : rdS s p with
  | none => exact ⟨⟨#[]⟩, p, true, 0, p, true, fun wx hc => l04ReadShort_bad g s hs p false (Or.inr ho) wx hc, fun wx hc => l04Var_bad g s hs p true (Or.inl rfl) wx hc, Nat.zero_le _, Nat.zero_le _, (fun e => by cases e), fun _ => nt_nokey h he hk ho⟩
  | some r1 =>
    obtain ⟨x, q⟩ := r1
    cases ho2 : rdV s q with
    | none => exact ⟨x, q, false, 0, q, true, fun wx hc => l04ReadShort_good g s hs p x q ho wx hc, fun wx hc => l04Var_bad g s hs q false (Or.inr ho2) wx hc, (rdS_back ho).2.2.1, Nat.zero_le _, (fun e => by cases e), fun _ => nt_nokid h he hk hl ho ho2⟩
    | some r2 =>
      obtain ⟨y, r⟩ := r2
      exact ⟨x, q, false, y, r, false, fun wx hc => l04ReadShort_good g s hs p x q ho wx hc, fun wx hc => l04Var_good g s hs q y r ho2 wx hc, (rdS_back ho).2.2.1, (rdV_back ho2).2.2.1, fun _ => nt_kid h he hk hl ho ho2, (fun e => by cases e)⟩

/-- how many, by the cursor -/
theorem round_0 (g : Nat) {s : ByteArray} (hs : s.size ≤ 1048576) (lf : Bool) (hl : lf = decide (byt s 0 = 108)) : ∃ (cnt q : Nat) (b : Bool),
    (∀ wx, CurT wx g s 1 false → Calls Tryz.prog 37 #[.pointer (some ⟨g, 0, none⟩)] wx fun e w' => e = .returned (.int .i64 (cnt : Int)) ∧ CurT w' g s q b ∧ wx.grownBy w' (some g)) ∧
    cnt ≤ 1000000000 ∧ (b = false → NTry s cnt ⟨lf, [], [], []⟩ q) ∧ (b = true → ∀ m, ¬ IsIn s m) := by
  cases ho : rdV s 1 with
  | none => exact ⟨0, 1, true, fun wx hc => l04Var_bad g s hs 1 false (Or.inr ho) wx hc, Nat.zero_le _, (fun e => by cases e), fun _ => nt_novar ho⟩
  | some r1 =>
    obtain ⟨cnt, q⟩ := r1
    exact ⟨cnt, q, false, fun wx hc => l04Var_good g s hs 1 cnt q ho wx hc, (rdV_back ho).2.2.1, fun _ => nt_start hl ho, (fun e => by cases e)⟩

theorem own_nil (w : World) (B : Nat) : NodeOwn w B (.agg #[.bool false, .slice none 0 0, .slice none 0 0, .slice none 0 0]) false [] [] [] := ⟨_, _, _, rfl, ⟨rfl, Or.inl ⟨rfl, rfl⟩⟩, ⟨rfl, Or.inl ⟨rfl, rfl⟩⟩, ⟨rfl, Or.inl ⟨rfl, rfl⟩⟩, fun k e => by cases e⟩
end Go.Proofs.YtdcmpjefemcppaaGreatDoor
