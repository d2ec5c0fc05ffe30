/-
  The draws of the laws of chapter 4 by contracts: DrawSchemaText, DrawReadSchema, DrawFieldAt, DrawThingOk, DrawThingText, DrawReadThing, DrawSchema.
-/
import Derived.Test.YtjldcbnoomcloaaDrawThing5
namespace Go.Proofs.Ytjldcbnoomcloaa
open Go.RowKit

theorem smallF_in {fs : List (ByteArray × Int)} (h : SmallF fs) : fs.length ≤ 1048576 ∧ ∀ f ∈ fs, f.1.size ≤ 1048576 := ⟨by have := h.1; omega, fun f hf => by have := h.2 f hf; omega⟩

theorem smallV_in {vs : List (Int × ByteArray)} (h : SmallV vs) : vs.length ≤ 1048576 ∧ ∀ f ∈ vs, f.2.size ≤ 1048576 := ⟨by have := h.1; omega, fun f hf => by have := h.2 f hf; omega⟩

theorem schemaO_size (fs : List (ByteArray × Int)) : (schemaO fs).size ≤ 30 := by
  unfold schemaO
  split
  · next h =>
    have h1 := schemaK_size h fs.length (Nat.le_refl _)
    have h2 := (schema_yes h).2.1
    omega
  · exact Nat.zero_le _

theorem thingO_size (fs : List (ByteArray × Int)) (vs : List (Int × ByteArray)) : (thingO fs vs).size ≤ 33 := by
  unfold thingO
  split
  · next h =>
    have h1 := thingK_size h vs.length (Nat.le_refl _)
    have h2 := thing_yes h
    omega
  · exact Nat.zero_le _

/-- behind a draw nothing that was there ahead of the cursor is turned -/
theorem below_drawn {w w1 w2 : World} {g B : Nat} {a : Option Addr} {len cap : Nat} (h : Below w.heap.size w w1) (hg : w.heap.size ≤ g) (hd : Drawn w1 w2 g B a len cap) : Below w.heap.size w w2 :=
  h.grown hd.2.1 h.size (fun k hk => by injection hk with hk; omega)

theorem own_not {w : World} {B e sz n g : Nat} {v : Value} {xs : List Value} (h : w.ownsRow B e sz v n xs) (hg : g < B) : v.ownBlock ≠ some g := fun e => by have := (h.lt g e).1; omega

/-- a call that makes memory alone leaves the cursor as it is -/
theorem drawn_below {w w1 w2 : World} {g B : Nat} {a : Option Addr} {len cap : Nat} (h : Drawn w w1 g B a len cap) (hb : Below w1.heap.size w1 w2) (hB : B ≤ g) : Drawn w w2 g B a len cap :=
  ⟨cur_grown h.1 (grown_of_below hb none) (by simp), grown_trans h.2.1 (grown_of_below hb _), code_grown h.2.2 (grown_of_below hb (some g)) hB (cur_lt h.1)⟩

set_option maxHeartbeats 400000 in
theorem drawSchemaText_any (a : Option Addr) (len cap : Nat) (w : World) (hd : CodeIn w w.heap.size a len) :
    Calls Try.prog 20 #[.slice a len cap] w fun e w' => ∃ (v : Value) (fs : List (ByteArray × Int)), SmallF fs ∧ e = .returned v ∧ RowAt w' 2 v fs.length (flds fs) ∧ Below w.heap.size w w' := by
  have HD := hide hd
  clear hd
  go_enter Try.func20, Try.ntmps20
  go_wp2_with fail
  refine (l01New_any a len cap _ HD.out).mono ?_
  rintro e w1 ⟨rfl, hc, hd1, hb⟩
  have HC := hide hc
  have HD1 := hide hd1
  have HB := hide hb
  clear hc hd1 hb
  go_wp2_with fail
  refine (l04AnySchema_any w.heap.size w.heap.size a len cap _ HC.out HD1.out (Nat.le_refl _)).mono ?_
  rintro e w2 ⟨v, fs, hsm, rfl, hown, h2⟩
  have HSm := hide hsm
  have HR := hide (row_of_own hown)
  have HB2 := hide (below_drawn HB.out (Nat.le_refl _) h2)
  clear hsm hown h2
  go_wp2_with fail
  go_ret
  exact ⟨_, fs, HSm.out, rfl, HR.out, HB2.out⟩

set_option maxHeartbeats 1000000 in
theorem drawReadSchema_any (a : Option Addr) (len cap : Nat) (w : World) (hd : CodeIn w w.heap.size a len) :
    Calls Try.prog 23 #[.slice a len cap] w fun e w' => ∃ t : ByteArray, t.size ≤ 100 ∧ e = .returned (.string t) ∧ Below w.heap.size w w' := by
  have HD := hide hd
  clear hd
  go_enter Try.func23, Try.ntmps23
  go_wp2_with fail
  refine (l01New_any a len cap _ HD.out).mono ?_
  rintro e w1 ⟨rfl, hc, hd1, hb⟩
  have HC := hide hc
  have HD1 := hide hd1
  have HB := hide hb
  clear hc hd1 hb
  go_wp2_with fail
  refine (l04AnySchema_any w.heap.size w.heap.size a len cap _ HC.out HD1.out (Nat.le_refl _)).mono ?_
  rintro e w2 ⟨v, fs, hsm, rfl, hown, h2⟩
  have HSp := hide (specSchemaText_any fs (smallF_in hsm).1 (smallF_in hsm).2 v w2 (row_of_own hown))
  have H2 := hide h2
  have hsz := schemaO_size fs
  obtain ⟨s, hs⟩ : ∃ s, s = schemaO fs := ⟨_, rfl⟩
  obtain ⟨ok, hok⟩ : ∃ ok, ok = schemaOkB fs := ⟨_, rfl⟩
  rw [← hs, ← hok] at HSp
  rw [← hs] at hsz
  clear hsm hown h2 hs hok
  go_wp2_with fail
  refine HSp.out.mono ?_
  rintro e w3 ⟨rfl, hb3⟩
  have H3 := hide (drawn_below H2.out hb3 (Nat.le_refl _))
  clear hb3
  go_wp2_with fail
  refine (l01Once_any w.heap.size w.heap.size a len cap 3 (by omega) (by omega) _ H3.out.1 H3.out.2.2 (Nat.le_refl _)).mono ?_
  rintro e w4 ⟨b, rfl, h4⟩
  have H4 := hide (drawn_trans H3.out h4)
  clear h4
  cases b with
  | true =>
    go_wp2_with fail
    refine (l02Spoilt_any w.heap.size w.heap.size a len cap s (by omega) _ H4.out.1 H4.out.2.2 (Nat.le_refl _)).mono ?_
    rintro e w5 ⟨t, ht, rfl, h5⟩
    have HB5 := hide (below_drawn HB.out (Nat.le_refl _) (drawn_trans H4.out h5))
    have HT : Hid (t.size ≤ 100) := hide (by omega)
    clear h5 ht
    go_wp2_with fail
    go_ret
    exact ⟨t, HT.out, rfl, HB5.out⟩
  | false =>
    have HB5 := hide (below_drawn HB.out (Nat.le_refl _) H4.out)
    go_wp2_with fail
    go_ret
    exact ⟨s, by omega, rfl, HB5.out⟩

def names5 : List ByteArray := [⟨#[97, 103, 101]⟩, ⟨#[110, 97, 109, 101]⟩, ⟨#[120]⟩, ⟨#[110, 111]⟩, ⟨#[]⟩]

set_option maxHeartbeats 1000000 in
theorem drawFieldAt_any (a : Option Addr) (len cap : Nat) (w : World) (hd : CodeIn w w.heap.size a len) :
    Calls Try.prog 25 #[.slice a len cap] w fun e w' => ∃ (v : Value) (fs : List (ByteArray × Int)) (name : ByteArray), SmallF fs ∧ e = .returned (.tuple #[v, .string name]) ∧ RowAt w' 2 v fs.length (flds fs) ∧ Below w.heap.size w w' := by
  have HD := hide hd
  clear hd
  go_enter Try.func25, Try.ntmps25
  go_wp2_with fail
  refine (l01New_any a len cap _ HD.out).mono ?_
  rintro e w1 ⟨rfl, hc, hd1, hb⟩
  have HC := hide hc
  have HD1 := hide hd1
  have HB := hide hb
  clear hc hd1 hb
  go_wp2_with fail
  refine (pick_strs w.heap.size w.heap.size a len cap names5 5 rfl (by omega) (by omega) w1 w1.heap.size rfl HC.out HD1.out (Nat.le_refl _) _ rfl).mono ?_
  rintro e w2 ⟨name, hz, rfl, h2⟩
  have H2 := hide h2
  clear hz h2
  go_wp2_with fail
  refine (l04AnySchema_any w.heap.size w.heap.size a len cap _ H2.out.1 H2.out.2.2 (Nat.le_refl _)).mono ?_
  rintro e w3 ⟨v, fs, hsm, rfl, hown, h3⟩
  have HSm := hide hsm
  have HR := hide (row_of_own hown)
  have HB3 := hide (below_drawn HB.out (Nat.le_refl _) (drawn_trans H2.out h3))
  clear hsm hown h3
  go_wp2_with fail
  go_ret2
  exact ⟨_, fs, name, HSm.out, rfl, HR.out, HB3.out⟩

set_option maxHeartbeats 1000000 in
theorem drawThingOk_any (a : Option Addr) (len cap : Nat) (w : World) (hd : CodeIn w w.heap.size a len) :
    Calls Try.prog 78 #[.slice a len cap] w fun e w' => ∃ (v u : Value) (fs : List (ByteArray × Int)) (vs : List (Int × ByteArray)), SmallF fs ∧ SmallV vs ∧ e = .returned (.tuple #[v, u]) ∧ RowAt w' 2 v fs.length (flds fs) ∧ RowAt w' 2 u vs.length (puts vs) ∧ Below w.heap.size w w' := by
  have HD := hide hd
  clear hd
  go_enter Try.func78, Try.ntmps78
  go_wp2_with fail
  refine (l01New_any a len cap _ HD.out).mono ?_
  rintro e w1 ⟨rfl, hc, hd1, hb⟩
  have HC := hide hc
  have HD1 := hide hd1
  have HB := hide hb
  have HS1 := hide (cur_lt hc)
  clear hc hd1 hb
  go_wp2_with fail
  refine (l04AnySchema_any w.heap.size w.heap.size a len cap _ HC.out HD1.out (Nat.le_refl _)).mono ?_
  rintro e w2 ⟨v, fs, hsm, rfl, hown, h2⟩
  have HSm := hide hsm
  have HO := hide hown
  have H2 := hide h2
  clear hsm hown h2
  go_wp2_with fail
  refine (l04AnyThing_any w.heap.size w.heap.size a len cap fs HSm.out.1 v _ H2.out.1 H2.out.2.2 (Nat.le_refl _) (row_of_own HO.out) (Or.inr (own_not HO.out HS1.out))).mono ?_
  rintro e w3 ⟨u, vs, hsv, rfl, hru, h3⟩
  have HSv := hide hsv
  have HRu := hide hru
  have HRv := hide (row_drawn (row_of_own HO.out) h3.2.1 (Or.inr (own_not HO.out HS1.out)))
  have HB3 := hide (below_drawn HB.out (Nat.le_refl _) (drawn_trans H2.out h3))
  clear hsv hru h3
  go_wp2_with fail
  go_ret2
  exact ⟨_, _, fs, vs, HSm.out, HSv.out, rfl, HRv.out, HRu.out, HB3.out⟩

set_option maxHeartbeats 1000000 in
theorem drawThingText_any (a : Option Addr) (len cap : Nat) (w : World) (hd : CodeIn w w.heap.size a len) :
    Calls Try.prog 31 #[.slice a len cap] w fun e w' => ∃ (v u : Value) (fs : List (ByteArray × Int)) (vs : List (Int × ByteArray)), SmallF fs ∧ SmallV vs ∧ e = .returned (.tuple #[v, u]) ∧ RowAt w' 2 v fs.length (flds fs) ∧ RowAt w' 2 u vs.length (puts vs) ∧ Below w.heap.size w w' := by
  have HD := hide hd
  clear hd
  go_enter Try.func31, Try.ntmps31
  go_wp2_with fail
  refine (drawThingOk_any a len cap _ HD.out).mono ?_
  rintro e w1 ⟨v, u, fs, vs, h1, h2, rfl, h3⟩
  have H := hide (⟨h1, h2, h3⟩ : _ ∧ _ ∧ _)
  clear h1 h2 h3
  go_wp2_with fail
  go_ret2
  exact ⟨_, _, fs, vs, H.out.1, H.out.2.1, rfl, H.out.2.2⟩

theorem sch3_le (n : Nat) : (sch3.take n).length ≤ 6 := Nat.le_trans (sch3_small n).1 (by omega)

set_option maxHeartbeats 1000000 in
theorem drawReadThing_any (a : Option Addr) (len cap : Nat) (w : World) (hd : CodeIn w w.heap.size a len) :
    Calls Try.prog 34 #[.slice a len cap] w fun e w' => ∃ (v : Value) (fs : List (ByteArray × Int)) (t : ByteArray), SmallF fs ∧ t.size ≤ 100 ∧ e = .returned (.tuple #[v, .string t]) ∧ RowAt w' 2 v fs.length (flds fs) ∧ Below w.heap.size w w' := by
  have HD := hide hd
  clear hd
  go_enter Try.func34, Try.ntmps34
  go_wp2_with fail
  refine (l01New_any a len cap _ HD.out).mono ?_
  rintro e w1 ⟨rfl, hc, hd1, hb⟩
  have HC := hide hc
  have HD1 := hide hd1
  have HB := hide hb
  have HS1 := hide (cur_lt hc)
  clear hc hd1 hb
  go_wp2_with fail
  refine (l04Schema_any w.heap.size w.heap.size a len cap _ HC.out HD1.out (Nat.le_refl _)).mono ?_
  rintro e w2 ⟨v, n, hn1, hn3, rfl, hown, h2⟩
  have hsm : SmallF (sch3.take n) := ⟨sch3_le n, fun f hf => Nat.le_succ_of_le ((sch3_small n).2 f hf)⟩
  obtain ⟨fs, hfs⟩ : ∃ fs, fs = sch3.take n := ⟨_, rfl⟩
  rw [← hfs] at hown hsm
  have HSm := hide hsm
  have HO := hide hown
  have H2 := hide h2
  clear hsm hown h2 hfs
  go_wp2_with fail
  refine (l04Thing_any w.heap.size w.heap.size a len cap fs HSm.out.1 v _ H2.out.1 H2.out.2.2 (Nat.le_refl _) (row_of_own HO.out) (Or.inr (own_not HO.out HS1.out))).mono ?_
  rintro e w3 ⟨u, vs, hvl, hdv, rfl, hown3, h3⟩
  have HSv := hide (drawnVs_small hdv hvl HSm.out.1)
  have HO3 := hide (HO.out.kept h3.2.1 (Or.inr (own_not HO.out HS1.out)))
  have H3 := hide (drawn_trans H2.out h3)
  have HSp := hide (specThingText_any fs vs (smallF_in HSm.out).1 (smallF_in HSm.out).2 (smallV_in HSv.out).1 (smallV_in HSv.out).2 v u w3 (row_of_own HO3.out) (row_of_own hown3))
  have hsz := thingO_size fs vs
  obtain ⟨s, hs⟩ : ∃ s, s = thingO fs vs := ⟨_, rfl⟩
  obtain ⟨ok, hok⟩ : ∃ ok, ok = thingOkB fs vs := ⟨_, rfl⟩
  rw [← hs, ← hok] at HSp
  rw [← hs] at hsz
  clear hvl hdv hown3 h3 hs hok
  go_wp2_with fail
  refine HSp.out.mono ?_
  rintro e w4 ⟨rfl, hb4⟩
  have HO4 := hide (own_stays HO3.out hb4)
  have H4 := hide (drawn_below H3.out hb4 (Nat.le_refl _))
  clear hb4
  go_wp2_with fail
  refine (l01Once_any w.heap.size w.heap.size a len cap 3 (by omega) (by omega) _ H4.out.1 H4.out.2.2 (Nat.le_refl _)).mono ?_
  rintro e w5 ⟨b, rfl, h5⟩
  have HO5 := hide (HO4.out.kept h5.2.1 (Or.inr (own_not HO4.out HS1.out)))
  have H5 := hide (drawn_trans H4.out h5)
  clear h5
  cases b with
  | true =>
    go_wp2_with fail
    refine (l02Spoilt_any w.heap.size w.heap.size a len cap s (by omega) _ H5.out.1 H5.out.2.2 (Nat.le_refl _)).mono ?_
    rintro e w6 ⟨t, ht, rfl, h6⟩
    have HO6 := hide (HO5.out.kept h6.2.1 (Or.inr (own_not HO5.out HS1.out)))
    have HB6 := hide (below_drawn HB.out (Nat.le_refl _) (drawn_trans H5.out h6))
    have HT : Hid (t.size ≤ 100) := hide (by omega)
    clear h6 ht
    go_wp2_with fail
    go_ret2
    exact ⟨_, fs, t, HSm.out, HT.out, rfl, row_of_own HO6.out, HB6.out⟩
  | false =>
    have HB5 := hide (below_drawn HB.out (Nat.le_refl _) H5.out)
    go_wp2_with fail
    go_ret2
    exact ⟨_, fs, s, HSm.out, by omega, rfl, row_of_own HO5.out, HB5.out⟩

set_option maxHeartbeats 1000000 in
theorem drawSchema_any (a : Option Addr) (len cap : Nat) (w : World) (hd : CodeIn w w.heap.size a len) :
    Calls Try.prog 39 #[.slice a len cap] w fun e w' => ∃ (v x y : Value) (n : Nat) (vs us : List (Int × ByteArray)), 1 ≤ n ∧ n ≤ 3 ∧ vs.length = (sch3.take n).length ∧ us.length = (sch3.take n).length ∧ DrawnVs (sch3.take n) vs ∧ DrawnVs (sch3.take n) us ∧ e = .returned (.tuple #[v, x, y]) ∧ RowAt w' 2 v (sch3.take n).length (flds (sch3.take n)) ∧ RowAt w' 2 x vs.length (puts vs) ∧ RowAt w' 2 y us.length (puts us) ∧ Below w.heap.size w w' := by
  have HD := hide hd
  clear hd
  go_enter Try.func39, Try.ntmps39
  go_wp2_with fail
  refine (l01New_any a len cap _ HD.out).mono ?_
  rintro e w1 ⟨rfl, hc, hd1, hb⟩
  have HC := hide hc
  have HD1 := hide hd1
  have HB := hide hb
  have HS1 := hide (cur_lt hc)
  clear hc hd1 hb
  go_wp2_with fail
  refine (l04Schema_any w.heap.size w.heap.size a len cap _ HC.out HD1.out (Nat.le_refl _)).mono ?_
  rintro e w2 ⟨v, n, hn1, hn3, rfl, hown, h2⟩
  have HN := hide (⟨hn1, hn3⟩ : _ ∧ _)
  have h6 := sch3_le n
  have HO := hide hown
  have H2 := hide h2
  have HL2 : Hid (w.heap.size < w2.heap.size) := hide (cur_lt h2.1)
  clear hown h2 hn1 hn3
  go_wp2_with fail
  refine (l04Thing_any w.heap.size w.heap.size a len cap _ h6 v _ H2.out.1 H2.out.2.2 (Nat.le_refl _) (row_of_own HO.out) (Or.inr (own_not HO.out HS1.out))).mono ?_
  rintro e w3 ⟨x, vs, hvl, hdv, rfl, hown3, h3⟩
  have HV := hide (⟨hvl, hdv⟩ : _ ∧ _)
  have HO3 := hide (HO.out.kept h3.2.1 (Or.inr (own_not HO.out HS1.out)))
  have HX3 := hide hown3
  have H3 := hide (drawn_trans H2.out h3)
  clear hvl hdv hown3 h3
  go_wp2_with fail
  refine (l04Thing_any w.heap.size w.heap.size a len cap _ h6 v _ H3.out.1 H3.out.2.2 (Nat.le_refl _) (row_of_own HO3.out) (Or.inr (own_not HO3.out HS1.out))).mono ?_
  rintro e w4 ⟨y, us, hul, hdu, rfl, hown4, h4⟩
  have HU := hide (⟨hul, hdu⟩ : _ ∧ _)
  have HO4 := hide (HO3.out.kept h4.2.1 (Or.inr (own_not HO3.out HS1.out)))
  have HX4 := hide (HX3.out.kept h4.2.1 (Or.inr (own_not HX3.out HL2.out)))
  have HY4 := hide hown4
  have HB4 := hide (below_drawn HB.out (Nat.le_refl _) (drawn_trans H3.out h4))
  clear hul hdu hown4 h4
  go_wp2_with fail
  go_ret3
  exact ⟨_, _, _, n, vs, us, HN.out.1, HN.out.2, HV.out.1, HU.out.1, HV.out.2, HU.out.2, rfl, row_of_own HO4.out, row_of_own HX4.out, row_of_own HY4.out, HB4.out⟩
end Go.Proofs.Ytjldcbnoomcloaa
