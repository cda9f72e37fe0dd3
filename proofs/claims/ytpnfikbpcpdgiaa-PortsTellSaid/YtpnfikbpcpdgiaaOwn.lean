/- Rows of the call's own: an empty one; a lower base. -/
import Derived.Test.YtpnfikbpcpdgiaaArg
namespace Go.Proofs.Ytpnfikbpcpdgiaa
open Go.RowKit Go.Lib

theorem owns_empty {w : World} {g cap : Nat} {cur : Array Value} {t : TypeId} {size : Nat} (hg : w.heap[g]? = some (.cells cur t (0, 0))) (hc : cap ≤ maxLen) (hs : cur.size = cap * size) (base : Nat) (hb : base ≤ g) :
    w.ownsRow base t size (.slice (some ⟨g, 0, none⟩) 0 cap) 0 [] :=
  ⟨by simp, .inr ⟨g, cap, cur, rfl, hb, hg, Nat.zero_le _, hc, hs, by simp⟩⟩
/-- It stays where another block, of another type, is written. -/
theorem owns_keep {w w' : World} {B : Nat} {e : TypeId} {s : Nat} {v : Value} {n : Nat} {xs : List Value} (h : w.ownsRow B e s v n xs)
    (hk : ∀ (k : Nat) (cur : Array Value), v.ownBlock = some k → w.heap[k]? = some (.cells cur e (0, 0)) → w'.heap[k]? = some (.cells cur e (0, 0))) : w'.ownsRow B e s v n xs := by
  refine ⟨h.1, ?_⟩
  rcases h.2 with hn | ⟨g, cap, cur, rfl, hb, hg, rest⟩
  · exact .inl hn
  · exact .inr ⟨g, cap, cur, rfl, hb, hk g cur rfl hg, rest⟩
theorem owns_grown {w w' : World} {B : Nat} {e : TypeId} {s : Nat} {v : Value} {n : Nat} {xs : List Value} {row : Option Nat} (h : w.ownsRow B e s v n xs) (hg : w.grownBy w' row) (hne : ∀ k, row = some k → v.ownBlock ≠ some k) : w'.ownsRow B e s v n xs :=
  owns_keep h fun k _ hk hc => (hg.block k (Array.getElem?_eq_some_iff.1 hc).1 (fun e => hne k e.symm hk)).trans hc
/-- Where a slice of one's own lies. -/
theorem owns_shape {w : World} {B : Nat} {e : TypeId} {s : Nat} {v : Value} {n : Nat} {xs : List Value} (h : w.ownsRow B e s v n xs) (hn : 0 < n) : ∃ g cap cur, v = .slice (some ⟨g, 0, none⟩) n cap ∧ B ≤ g ∧ w.heap[g]? = some (.cells cur e (0, 0)) ∧ n ≤ cap ∧ cap ≤ maxLen := by
  rcases h.2 with ⟨_, h0⟩ | ⟨g, cap, cur, hv, hb, hh, h1, h2, _⟩
  · omega
  · exact ⟨g, cap, cur, hv, hb, hh, h1, h2⟩
end Go.Proofs.Ytpnfikbpcpdgiaa
