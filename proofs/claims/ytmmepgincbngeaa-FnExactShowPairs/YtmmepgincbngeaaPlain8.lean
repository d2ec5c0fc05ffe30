/-
  Plain facts on check sums of 32 bits, without any program: eight halvings of a byte, by bits and by a table of sixteen; a sum tells any two texts apart that part in one byte.
-/
import Derived.Test.YtmmepgincbngeaaPlain3
namespace Go.Proofs.Ytmmepgincbngeaa
open Go.RowKit

/-- one halving -/
def half (c : Nat) : Nat := if c % 2 = 1 then (c / 2) ^^^ 3558460437 else c / 2

/-- four halvings -/
def half4 (c : Nat) : Nat := half (half (half (half c)))

/-- what a byte makes of a sum -/
def sumB (c b : Nat) : Nat := half4 (half4 (c ^^^ b))

/-- what a text makes of a sum -/
def sumL (c : Nat) (l : List UInt8) : Nat := l.foldl (fun c b => sumB c b.toNat) c

/-- the four bytes of a sum, the highest first -/
def fourL (x : Nat) : List UInt8 := [UInt8.ofNat (x / 16777216 % 256), UInt8.ofNat (x / 65536 % 256), UInt8.ofNat (x / 256 % 256), UInt8.ofNat (x % 256)]

theorem xor_lt32 (a b : Nat) (ha : a < 4294967296) (hb : b < 4294967296) : a ^^^ b < 4294967296 := Nat.xor_lt_two_pow (n := 32) ha hb

theorem half_lt (c : Nat) (h : c < 4294967296) : half c < 4294967296 := by
  unfold half
  split
  · exact xor_lt32 _ _ (by omega) (by omega)
  · omega

theorem half4_lt (c : Nat) (h : c < 4294967296) : half4 c < 4294967296 := half_lt _ (half_lt _ (half_lt _ (half_lt _ h)))

theorem sumB_lt (c b : Nat) (h : c < 4294967296) (hb : b < 256) : sumB c b < 4294967296 := half4_lt _ (half4_lt _ (xor_lt32 _ _ h (by omega)))

theorem sumL_lt (l : List UInt8) : ∀ c, c < 4294967296 → sumL c l < 4294967296 := by
  induction l with
  | nil => intro c h; exact h
  | cons b l ih => intro c h; exact ih _ (sumB_lt c _ h (UInt8.toNat_lt b))

theorem sumL_append (c : Nat) (l m : List UInt8) : sumL c (l ++ m) = sumL (sumL c l) m := by simp [sumL, List.foldl_append]

theorem half_xor (a b : Nat) : half (a ^^^ b) = half a ^^^ half b := by
  have h1 : (a ^^^ b) % 2 = (a + b) % 2 := by
    have := Nat.xor_mod_two_pow (a := a) (b := b) (n := 1)
    simp only [Nat.pow_one] at this
    rw [this]
    rcases Nat.mod_two_eq_zero_or_one a with ha | ha <;> rcases Nat.mod_two_eq_zero_or_one b with hb | hb <;> rw [ha, hb] <;> simp <;> omega
  have h2 : (a ^^^ b) / 2 = a / 2 ^^^ b / 2 := by have := Nat.xor_div_two_pow (a := a) (b := b) (n := 1); simpa using this
  unfold half
  rw [h1, h2]
  by_cases ha : a % 2 = 1 <;> by_cases hb : b % 2 = 1
  · rw [if_neg (by omega), if_pos ha, if_pos hb, Nat.xor_assoc, Nat.xor_comm (b / 2) 3558460437, ← Nat.xor_assoc 3558460437, Nat.xor_self, Nat.zero_xor]
  · rw [if_pos (by omega), if_pos ha, if_neg hb, Nat.xor_assoc, Nat.xor_comm (b / 2), ← Nat.xor_assoc]
  · rw [if_pos (by omega), if_neg ha, if_pos hb, Nat.xor_assoc]
  · rw [if_neg (by omega), if_neg ha, if_neg hb]

theorem half4_xor (a b : Nat) : half4 (a ^^^ b) = half4 a ^^^ half4 b := by simp only [half4, half_xor]

theorem half4_mul (q : Nat) : half4 (16 * q) = q := by
  have e : ∀ x, half (2 * x) = x := fun x => by unfold half; rw [if_neg (by omega)]; omega
  have h : 16 * q = 2 * (2 * (2 * (2 * q))) := by omega
  unfold half4
  rw [h, e, e, e, e]

theorem split16 (x : Nat) : x = (16 * (x / 16)) ^^^ (x % 16) := by
  have h1 : ((16 * (x / 16)) ^^^ (x % 16)) / 16 = x / 16 := by
    have := Nat.xor_div_two_pow (a := 16 * (x / 16)) (b := x % 16) (n := 4)
    rw [show (2 : Nat) ^ 4 = 16 from rfl] at this
    rw [this, Nat.mul_div_cancel_left _ (by omega), Nat.div_eq_of_lt (by omega : x % 16 < 16), Nat.xor_zero]
  have h2 : ((16 * (x / 16)) ^^^ (x % 16)) % 16 = x % 16 := by
    have := Nat.xor_mod_two_pow (a := 16 * (x / 16)) (b := x % 16) (n := 4)
    rw [show (2 : Nat) ^ 4 = 16 from rfl] at this
    rw [this, Nat.mul_mod_right, Nat.zero_xor, Nat.mod_mod]
  omega

/-- the table of sixteen -/
def tab16 : List Nat := [0, 1166650509, 2333301018, 3466261911, 3189058079, 4221339282, 889615109, 1888477064, 3558460437, 2442158232, 1594529039, 444807554, 1779230218, 797264519, 3776954128, 2761298845]

theorem half4_tab (r : Nat) (h : r < 16) : half4 r = tab16.getD r 0 := by
  revert r
  decide

theorem half4_eq (x : Nat) : half4 x = (x / 16) ^^^ tab16.getD (x % 16) 0 := by
  rw [← half4_tab _ (Nat.mod_lt _ (by omega)), ← half4_mul (x / 16)]
  conv => lhs; rw [split16 x]
  rw [half4_xor, half4_mul]

/-- of what is halved each is told by what it gives -/
theorem half_inj (a b : Nat) (ha : a < 4294967296) (hb : b < 4294967296) (h : half a = half b) : a = b := by
  have hx : half (a ^^^ b) = 0 := by rw [half_xor, h, Nat.xor_self]
  have hl := xor_lt32 a b ha hb
  have h0 : a ^^^ b = 0 := by
    unfold half at hx
    split at hx
    · have e : (a ^^^ b) / 2 = 3558460437 := by
        have : ((a ^^^ b) / 2 ^^^ 3558460437) ^^^ 3558460437 = 3558460437 := by rw [hx, Nat.zero_xor]
        rwa [Nat.xor_assoc, Nat.xor_self, Nat.xor_zero] at this
      omega
    · omega
  have : (a ^^^ b) ^^^ b = b := by rw [h0, Nat.zero_xor]
  rwa [Nat.xor_assoc, Nat.xor_self, Nat.xor_zero] at this

theorem half4_inj (a b : Nat) (ha : a < 4294967296) (hb : b < 4294967296) (h : half4 a = half4 b) : a = b :=
  half_inj _ _ ha hb (half_inj _ _ (half_lt _ ha) (half_lt _ hb) (half_inj _ _ (half_lt _ (half_lt _ ha)) (half_lt _ (half_lt _ hb)) (half_inj _ _ (half_lt _ (half_lt _ (half_lt _ ha))) (half_lt _ (half_lt _ (half_lt _ hb))) h)))

theorem xor_back (a b : Nat) : (a ^^^ b) ^^^ b = a := by rw [Nat.xor_assoc, Nat.xor_self, Nat.xor_zero]

theorem sumB_inj (a b x : Nat) (ha : a < 4294967296) (hb : b < 4294967296) (hx : x < 256) (h : sumB a x = sumB b x) : a = b := by
  have la := xor_lt32 a x ha (by omega)
  have lb := xor_lt32 b x hb (by omega)
  have e := half4_inj _ _ la lb (half4_inj _ _ (half4_lt _ la) (half4_lt _ lb) h)
  rw [← xor_back a x, e, xor_back]

theorem sumB_byte (a x y : Nat) (ha : a < 4294967296) (hx : x < 256) (hy : y < 256) (h : sumB a x = sumB a y) : x = y := by
  have la := xor_lt32 a x ha (by omega)
  have lb := xor_lt32 a y ha (by omega)
  have e := half4_inj _ _ la lb (half4_inj _ _ (half4_lt _ la) (half4_lt _ lb) h)
  rw [Nat.xor_comm a x, Nat.xor_comm a y] at e
  rw [← xor_back x a, e, xor_back]

theorem sumL_inj (l : List UInt8) : ∀ a b, a < 4294967296 → b < 4294967296 → sumL a l = sumL b l → a = b := by
  induction l with
  | nil => intro a b _ _ h; exact h
  | cons x l ih => intro a b ha hb h; exact sumB_inj a b _ ha hb (UInt8.toNat_lt x) (ih _ _ (sumB_lt a _ ha (UInt8.toNat_lt x)) (sumB_lt b _ hb (UInt8.toNat_lt x)) h)

/-- a text of which one byte is another has another sum -/
theorem sumL_turned (c : Nat) (hc : c < 4294967296) (l m : List UInt8) (x y : UInt8) (hxy : x ≠ y) : sumL c (l ++ x :: m) ≠ sumL c (l ++ y :: m) := by
  intro h
  rw [sumL_append, sumL_append] at h
  have hl := sumL_lt l c hc
  have e := sumL_inj m _ _ (sumB_lt _ _ hl (UInt8.toNat_lt x)) (sumB_lt _ _ hl (UInt8.toNat_lt y)) (show sumL (sumB (sumL c l) x.toNat) m = sumL (sumB (sumL c l) y.toNat) m from h)
  exact hxy (UInt8.toNat_inj.1 (sumB_byte _ _ _ hl (UInt8.toNat_lt x) (UInt8.toNat_lt y) e))

theorem fourL_length (x : Nat) : (fourL x).length = 4 := rfl

theorem fourL_inj (x y : Nat) (hx : x < 4294967296) (hy : y < 4294967296) (h : fourL x = fourL y) : x = y := by
  simp only [fourL, List.cons.injEq, and_true] at h
  obtain ⟨h1, h2, h3, h4⟩ := h
  have e : ∀ a b : Nat, a < 256 → b < 256 → UInt8.ofNat a = UInt8.ofNat b → a = b := fun a b ha hb h => by
    have := congrArg UInt8.toNat h
    rwa [toNat_ofNat8 a ha, toNat_ofNat8 b hb] at this
  have e1 := e _ _ (by omega) (by omega) h1
  have e2 := e _ _ (by omega) (by omega) h2
  have e3 := e _ _ (by omega) (by omega) h3
  have e4 := e _ _ (by omega) (by omega) h4
  omega

/-- a text with its sum behind it -/
def sealL (l : List UInt8) : List UInt8 := l ++ fourL (sumL 4294967295 l)

/-- whether a text is one with its sum behind it -/
def isSealed (l : List UInt8) : Bool := decide (4 ≤ l.length ∧ l.length ≤ 20004 ∧ l.drop (l.length - 4) = fourL (sumL 4294967295 (l.take (l.length - 4))))

theorem sealL_length (l : List UInt8) : (sealL l).length = l.length + 4 := by simp [sealL, fourL_length]

theorem sealL_is (l : List UInt8) (h : l.length ≤ 20000) : isSealed (sealL l) = true := by
  unfold isSealed
  rw [sealL_length, Nat.add_sub_cancel, decide_eq_true_eq]
  refine ⟨by omega, by omega, ?_⟩
  simp [sealL]

/-- a sealed text with one byte turned is none -/
theorem sealL_turned (l : List UInt8) (i : Nat) (hi : i < (sealL l).length) (x : UInt8) (hx : x ≠ (sealL l)[i]) : isSealed ((sealL l).set i x) = false := by
  rw [← Bool.not_eq_true]
  intro h
  unfold isSealed at h
  rw [List.length_set, sealL_length, Nat.add_sub_cancel, decide_eq_true_eq] at h
  obtain ⟨-, -, h⟩ := h
  have hi' := hi
  rw [sealL_length] at hi'
  have hlt : (4294967295 : Nat) < 4294967296 := by omega
  by_cases hl : i < l.length
  · have e1 : (sealL l).set i x = l.set i x ++ fourL (sumL 4294967295 l) := by rw [sealL, List.set_append_left _ _ hl]
    have hxl : x ≠ l[i] := by simpa [sealL, List.getElem_append_left hl] using hx
    rw [e1, List.drop_left' (by simp), List.take_left' (by simp)] at h
    have h2 := fourL_inj _ _ (sumL_lt _ _ hlt) (sumL_lt _ _ hlt) h
    have e2 : l = l.take i ++ l[i] :: l.drop (i + 1) := by simp
    have e3 : l.set i x = l.take i ++ x :: l.drop (i + 1) := by rw [List.set_eq_take_append_cons_drop, if_pos hl]
    rw [e3] at h2
    have h3 : sumL 4294967295 (l.take i ++ l[i] :: l.drop (i + 1)) = sumL 4294967295 (l.take i ++ x :: l.drop (i + 1)) := by rw [← e2]; exact h2
    exact sumL_turned 4294967295 hlt (l.take i) (l.drop (i + 1)) l[i] x (fun e => hxl e.symm) h3
  · have e1 : (sealL l).set i x = l ++ (fourL (sumL 4294967295 l)).set (i - l.length) x := by rw [sealL, List.set_append_right _ _ (by omega)]
    rw [e1, List.drop_left' rfl, List.take_left' rfl] at h
    have hj : i - l.length < (fourL (sumL 4294967295 l)).length := by rw [fourL_length]; omega
    have : ((fourL (sumL 4294967295 l)).set (i - l.length) x)[i - l.length]'(by simpa using hj) = (fourL (sumL 4294967295 l))[i - l.length] := by simp only [h]
    rw [List.getElem_set_self] at this
    apply hx
    rw [this]
    simp only [sealL]
    rw [List.getElem_append_right (by omega)]
end Go.Proofs.Ytmmepgincbngeaa
