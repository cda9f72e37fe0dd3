/- Slices of numbers of 64 bits that came in: what they hold, what keeps them. -/
import Derived.Test.YtpnfikbpcpdgiaaArg
namespace Go.Proofs.Ytpnfikbpcpdgiaa
open Go.RowKit Go.Lib

def IsWords (w : World) (v : Value) (l : List Nat) : Prop :=
  (v = .slice none 0 0 ∧ l = []) ∨ ∃ ad c, v = .slice (some ad) l.length c ∧ l.length ≤ c ∧ c ≤ maxLen ∧ ∀ j, j < l.length → w.cell? (ad.add j) = some (.int .u64 ((l.getD j 0 : Nat) : Int))
theorem words_nil (w : World) : IsWords w (.slice none 0 0) [] := .inl ⟨rfl, rfl⟩
theorem IsWords.below {w w' : World} {v : Value} {l : List Nat} (h : IsWords w v l) (hb : Below w.heap.size w w') : IsWords w' v l := by
  rcases h with h | ⟨ad, c, h1, h2, h3, h4⟩
  · exact .inl h
  · exact .inr ⟨ad, c, h1, h2, h3, fun j hj => by
      have h5 := h4 j hj
      rw [hb.cell (World.block_lt_of_cell? w _ h5)]; exact h5⟩
theorem IsWords.shape {w : World} {v : Value} {l : List Nat} (h : IsWords w v l) : ∃ a n c, v = .slice a n c ∧ n = l.length ∧ n ≤ maxLen := by
  rcases h with ⟨rfl, rfl⟩ | ⟨ad, c, rfl, h2, h3, _⟩
  · exact ⟨none, 0, 0, rfl, rfl, Nat.zero_le _⟩
  · exact ⟨some ad, _, c, rfl, rfl, Nat.le_trans h2 h3⟩
theorem IsWords.at {w : World} {a : Option Addr} {n c : Nat} {l : List Nat} (h : IsWords w (.slice a n c) l) (k : Nat) (hk : k < l.length) :
    ∃ b off, a = some ⟨b, off, none⟩ ∧ w.cell? ⟨b, off + k, none⟩ = some (.int .u64 ((l.getD k 0 : Nat) : Int)) := by
  rcases h with ⟨_, rfl⟩ | ⟨ad, c', h1, _, _, h4⟩
  · simp at hk
  · cases h1
    have h5 := h4 k hk
    obtain ⟨b, off, spot⟩ := ad
    obtain rfl : spot = none := by
      cases spot with
      | none => rfl
      | some x =>
        exfalso
        have h6 := h4 0 (by omega)
        rw [Addr.add_zero'] at h6
        unfold World.cell? at h6
        split at h6
        · simp at h6
        · cases h6
    rw [Addr.add_lit] at h5
    exact ⟨b, off, rfl, h5⟩
end Go.Proofs.Ytpnfikbpcpdgiaa
