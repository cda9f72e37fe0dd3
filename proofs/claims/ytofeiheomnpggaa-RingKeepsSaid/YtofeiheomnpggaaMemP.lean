/- Plain: what memory answers, and becomes. -/
import Derived.Test.YtofeiheomnpggaaNumP
namespace Go.Proofs.Ytofeiheomnpggaa

def faultOf (L : Nat) (a n : Int) : Int := if L ≤ 8192 then (if 0 ≤ a ∧ a ≤ L ∧ 0 ≤ n ∧ n ≤ L - a then 0 else 40) else 3
def sizeFaultOf (L : Nat) (n : Int) : Int := if L ≤ 8192 then (if 1 ≤ n ∧ n ≤ 8 then 0 else 2) else 3
def getOf (l : List UInt8) (a n : Int) : List UInt8 := if faultOf l.length a n = 0 then (l.drop a.toNat).take n.toNat else []
def putOf (l : List UInt8) (a : Int) (b : List UInt8) : List UInt8 := if faultOf l.length a b.length = 0 then l.take a.toNat ++ b ++ l.drop (a.toNat + b.length) else l
theorem fault_zero {L : Nat} {a n : Int} (h : faultOf L a n = 0) : L ≤ 8192 ∧ 0 ≤ a ∧ a ≤ L ∧ 0 ≤ n ∧ n ≤ L - a := by
  unfold faultOf at h
  split at h
  · split at h
    · omega
    · omega
  · omega
theorem fault_of {L : Nat} {a n : Int} (h0 : L ≤ 8192) (h1 : 0 ≤ a) (h2 : a ≤ L) (h3 : 0 ≤ n) (h4 : n ≤ L - a) : faultOf L a n = 0 := by
  unfold faultOf
  rw [if_pos h0, if_pos ⟨h1, h2, h3, h4⟩]
theorem fault_out {L : Nat} {a n : Int} (h0 : L ≤ 8192) (h : ¬ (0 ≤ a ∧ a ≤ L ∧ 0 ≤ n ∧ n ≤ L - a)) : faultOf L a n = 40 := by
  unfold faultOf
  rw [if_pos h0, if_neg h]
theorem fault_cases (L : Nat) (a n : Int) : (faultOf L a n = 3 ∧ 8192 < L) ∨ (faultOf L a n = 40 ∧ L ≤ 8192 ∧ ¬ (0 ≤ a ∧ a ≤ L ∧ 0 ≤ n ∧ n ≤ L - a)) ∨ (faultOf L a n = 0 ∧ L ≤ 8192 ∧ 0 ≤ a ∧ a ≤ L ∧ 0 ≤ n ∧ n ≤ L - a) := by
  unfold faultOf
  split
  · split
    · exact .inr (.inr ⟨rfl, by omega, by omega⟩)
    · exact .inr (.inl ⟨rfl, by omega, by assumption⟩)
  · exact .inl ⟨rfl, by omega⟩
theorem size_cases (L : Nat) (n : Int) : (sizeFaultOf L n = 3 ∧ 8192 < L) ∨ (sizeFaultOf L n = 2 ∧ L ≤ 8192 ∧ ¬ (1 ≤ n ∧ n ≤ 8)) ∨ (sizeFaultOf L n = 0 ∧ L ≤ 8192 ∧ 1 ≤ n ∧ n ≤ 8) := by
  unfold sizeFaultOf
  split
  · split
    · exact .inr (.inr ⟨rfl, by omega, by omega⟩)
    · exact .inr (.inl ⟨rfl, by omega, by assumption⟩)
  · exact .inl ⟨rfl, by omega⟩
theorem getOf_some {l : List UInt8} {a n : Int} (h : faultOf l.length a n = 0) : getOf l a n = (l.drop a.toNat).take n.toNat := by rw [getOf, if_pos h]
theorem getOf_none {l : List UInt8} {a n : Int} (h : faultOf l.length a n ≠ 0) : getOf l a n = [] := by rw [getOf, if_neg h]
theorem putOf_some {l b : List UInt8} {a : Int} (h : faultOf l.length a b.length = 0) : putOf l a b = l.take a.toNat ++ b ++ l.drop (a.toNat + b.length) := by rw [putOf, if_pos h]
theorem putOf_none {l b : List UInt8} {a : Int} (h : faultOf l.length a b.length ≠ 0) : putOf l a b = l := by rw [putOf, if_neg h]
theorem putOf_length (l : List UInt8) (a : Int) (b : List UInt8) : (putOf l a b).length = l.length := by
  by_cases h : faultOf l.length a b.length = 0
  · obtain ⟨h0, h1, h2, h3, h4⟩ := fault_zero h
    rw [putOf_some h]
    simp
    omega
  · rw [putOf_none h]
theorem getOf_length {l : List UInt8} {a n : Int} (h : faultOf l.length a n = 0) : ((getOf l a n).length : Int) = n := by
  obtain ⟨h0, h1, h2, h3, h4⟩ := fault_zero h
  rw [getOf_some h]
  simp
  omega
theorem getOf_short (l : List UInt8) (a n : Int) (k : Nat) (hn : n ≤ k) : (getOf l a n).length ≤ k := by
  by_cases h : faultOf l.length a n = 0
  · have := getOf_length h
    omega
  · rw [getOf_none h]; simp
end Go.Proofs.Ytofeiheomnpggaa
