/-
  A store whose change is stopped is small enough, and may be marked. No program.
-/
import Derived.Test.YtghjbfdbheokcaaGreatSpecStop
namespace Go.Proofs.YtghjbfdbheokcaaGreat
open Go.RowKit

theorem syncD_sizeS {N : Nat} {bs : List (Int × ByteArray)} : ∀ {ps : List ByteArray}, (∀ s ∈ ps, s.size ≤ N) → (∀ p ∈ bs, p.2.size ≤ N) → ∀ x ∈ syncD ps bs, x.size ≤ N := by
  induction bs with
  | nil => intro ps h _ x hx; exact h x hx
  | cons p bs ih =>
    intro ps h hb
    rw [syncD, List.foldl_cons]
    refine ih (fun x hx => ?_) (fun q hq => hb q (List.mem_cons_of_mem _ hq))
    unfold putD at hx
    split at hx
    · rcases List.mem_or_eq_of_mem_set hx with h1 | h1
      · exact h x h1
      · rw [h1]; exact hb p (List.mem_cons_self ..)
    · exact h x hx

theorem wk0_bulk : wk0.bulk ≤ 1048576 := by decide

theorem bulkF_nil : bulkF ([] : List (Int × List Int)) ≤ 1048576 := by simp [bulkF, sumF]

theorem rest_small {s : St} (h : s.bulk ≤ 1048576) (ps : List ByteArray) (hp : ps.length ≤ 1048576) (hps : ∀ t ∈ ps, t.size ≤ 1048576) (m : Mt) (h1 : m.fs.length ≤ 1048576) (h2 : ∀ f ∈ m.fs, f.2.length ≤ 1048576) (h3 : bulkF m.fs ≤ 1048576) : (s.rest ps [] m).small ∧ (s.rest ps [] m).may := by
  have hs := bulkSt_in h
  have hm := bulkSt_may h
  exact ⟨⟨⟨hp, hps, Nat.zero_le _, fun p hp => (by cases hp)⟩, ⟨h1, h2⟩, hs.2.2.1, ⟨Nat.zero_le _, fun f hf => (by cases hf)⟩, wk0_bulk⟩, ⟨⟨hp, Nat.zero_le _⟩, ⟨h1, h2, h3⟩, hm.2.2.1, ⟨Nat.zero_le _, fun f hf => (by cases hf), bulkF_nil⟩, bulkW_in wk0_bulk⟩⟩

theorem stop_small {s : St} (h : s.bulk ≤ 1048576) : s.stop.small ∧ s.stop.may := by
  have hs := bulkSt_in h
  have hm := bulkSt_may h
  unfold St.stop
  split
  · have hk := bulkW_in hs.2.2.2.2
    exact rest_small h _ (by rw [syncD_length]; exact hk.1) (syncD_sizeS hk.2.1 hk.2.2.2.1) s.m hm.2.1.1 hm.2.1.2.1 hm.2.1.2.2
  · exact ⟨hs, hm⟩
end Go.Proofs.YtghjbfdbheokcaaGreat
