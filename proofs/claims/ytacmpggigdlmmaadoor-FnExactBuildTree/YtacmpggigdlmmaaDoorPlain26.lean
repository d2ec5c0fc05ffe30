/-
  Plain facts on nodes: a right node's bytes fit a page; it comes back from its bytes; with one byte turned there is none. No program.
-/
import Derived.Test.YtacmpggigdlmmaaDoorPlain16
namespace Go.Proofs.YtacmpggigdlmmaaDoor

theorem vtext_one {n : Nat} (h : n < 128) : (vtext n).length = 1 := by rw [vtext, venc_last 4 n h]; rfl

theorem shortB_size1 (s : ByteArray) (h : s.size < 128) : (shortB s).size = s.size + 1 := by
  rw [shortB, ByteArray.size_append, vtB_size, vtext_one h]
  omega

theorem sideT_size1 {lf : Bool} {ks vs : List ByteArray} {cs : List Int} (h : nodeOkB lf ks vs cs = true) {i : Nat} (hi : i < ks.length) : (sideT lf vs cs i).size ≤ 25 := by
  obtain ⟨h0, h1, h2, h3⟩ := node_yes h
  obtain ⟨c1, c2, c3, c4⟩ := cnt_yes h0
  unfold sideT
  split
  · next e =>
    have hv := h2 i (by have := (c3 e).1; omega)
    rw [shortB_size1 _ (by omega)]
    omega
  · next e =>
    have e' : lf = false := by cases lf; rfl; exact absurd rfl e
    have hk := kid_page (h3 i (by have := (c4 e').1; omega))
    rw [vtB_size, vtext_one (by omega)]
    omega

theorem nodeP_size1 {lf : Bool} {ks vs : List ByteArray} {cs : List Int} (h : nodeOkB lf ks vs cs = true) : ∀ k, k ≤ ks.length → (nodeP lf ks.length ks vs cs k).size ≤ 2 + 50 * k
  | 0, _ => by
    have c2 := (cnt_yes (node_yes h).1).2.1
    rw [nodeP, ByteArray.size_append, headB_size, vtB_size, vtext_one (by omega)]
    omega
  | k + 1, hk => by
    have ih := nodeP_size1 h k (by omega)
    have h1 := sideT_size1 h (show k < ks.length by omega)
    have h3 := key_short ((node_yes h).2.1 k (by omega))
    have h2 := shortB_size1 (ks.getD k ⟨#[]⟩) (by omega)
    rw [nodeP, ByteArray.size_append, ByteArray.size_append]
    omega

theorem nodeT_size {lf : Bool} {ks vs : List ByteArray} {cs : List Int} (h : nodeOkB lf ks vs cs = true) : (nodeT lf ks vs cs).size ≤ 206 := by
  have h1 := nodeP_size1 h ks.length (Nat.le_refl _)
  obtain ⟨c1, c2, -, -⟩ := cnt_yes (node_yes h).1
  have h2 : (nodeT lf ks vs cs).size = (nodeB lf ks vs cs).size + 4 := by
    unfold nodeT
    show (sealL (nodeB lf ks vs cs).data.toList).toArray.size = _
    rw [List.size_toArray, sealL_length]
    rfl
  rw [h2]
  unfold nodeB
  omega

theorem nodeO_size (lf : Bool) (ks vs : List ByteArray) (cs : List Int) : (nodeO lf ks vs cs).size ≤ 206 := by
  unfold nodeO
  split
  · next h => exact nodeT_size h
  · exact Nat.zero_le _

/-- a right node comes back -/
theorem readN_own {n x : Nd} {right : Bool} (h : ReadN (nodeO n.lf n.ks n.vs n.cs) x right) (hg : n.ok = true) : right = true ∧ x = n := by
  have hg' : nodeOkB n.lf n.ks n.vs n.cs = true := hg
  have hm : IsNd (nodeO n.lf n.ks n.vs n.cs) n := ⟨hg, by rw [nodeO, if_pos hg']⟩
  rcases h with ⟨h1, h2, h3⟩ | ⟨h1, h2, h3⟩
  · exact ⟨h1, (h3 n hm).symm⟩
  · exact absurd hm (h3 n)

theorem readN_back {t : ByteArray} {y : Nd} (h : ReadN t y true) : nodeO y.lf y.ks y.vs y.cs = t := by
  rcases h with ⟨-, h2, -⟩ | ⟨h1, -⟩
  · have hg' : nodeOkB y.lf y.ks y.vs y.cs = true := h2.1
    rw [nodeO, if_pos hg']
    exact h2.2
  · cases h1

theorem readN_unsealed {u : ByteArray} {z : Nd} {bent : Bool} (hu : isSealed u.data.toList = false) (h : ReadN u z bent) : bent = false := by
  rcases h with ⟨-, h2, -⟩ | ⟨h1, -⟩
  · exact absurd h2 (isNd_unsealed hu z)
  · exact h1

theorem nodeO_list {n : Nd} (h : n.ok = true) : (nodeO n.lf n.ks n.vs n.cs).data.toList = sealL (nodeB n.lf n.ks n.vs n.cs).data.toList := by
  have hg' : nodeOkB n.lf n.ks n.vs n.cs = true := h
  rw [nodeO, if_pos hg', nodeT_list]
end Go.Proofs.YtacmpggigdlmmaaDoor
