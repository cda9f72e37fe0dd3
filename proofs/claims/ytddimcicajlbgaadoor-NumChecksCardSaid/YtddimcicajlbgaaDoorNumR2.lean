/- Plain facts on texts that are read as numbers, digit by digit: no dump is imported. -/
import Derived.Test.YtddimcicajlbgaaDoorNumR
namespace Go.Proofs.YtddimcicajlbgaaDoor
open Go Go.Lib

/-- The value of digits. -/
def dv (l : List UInt8) : Nat := l.foldl (fun a c => 10 * a + (c.toNat - 48)) 0
/-- The digits among the first i signs: behind a sign, if there is one. -/
def digs (l : List UInt8) (i : Nat) : List UInt8 := (l.take i).drop (if l[0]?.getD 0 = 45 then 1 else 0)
def Good (l : List UInt8) (i : Nat) : Prop := ∀ k, k < i → (k = 0 ∧ l[0]?.getD 0 = 45) ∨ (48 ≤ (l[k]?.getD 0).toNat ∧ (l[k]?.getD 0).toNat ≤ 57)

theorem dv_snoc (l : List UInt8) (c : UInt8) : dv (l ++ [c]) = 10 * dv l + (c.toNat - 48) := by simp [dv, List.foldl_append]
theorem dv_digits (u : Nat) : dv (decDigits u) = u := by
  induction u using Nat.strongRecOn with
  | _ u ih =>
    by_cases h : u < 10
    · rw [decDigits_one' u h]
      simp only [dv, List.foldl_cons, List.foldl_nil, ofNat48 u h]; omega
    · rw [decDigits_snoc u h, dv_snoc, ih (u / 10) (by omega), ofNat48 (u % 10) (by omega)]; omega
theorem digs_zero (l : List UInt8) : digs l 0 = [] := by simp [digs]
theorem digs_skip (l : List UInt8) (h : l[0]?.getD 0 = 45) : digs l 1 = [] := by
  unfold digs
  rw [if_pos h]
  cases l <;> simp
theorem digs_step (l : List UInt8) (i : Nat) (hi : i < l.length) (h : ¬ (i = 0 ∧ l[0]?.getD 0 = 45)) : digs l (i + 1) = digs l i ++ [l[i]?.getD 0] := by
  unfold digs
  rw [List.take_succ_eq_append_getElem hi, List.getElem?_eq_getElem hi]
  split
  · rename_i h45
    have hi0 : i ≠ 0 := fun e => h ⟨e, h45⟩
    rw [List.drop_append_of_le_length (by simp; omega)]
    rfl
  · rfl
theorem digs_all (l : List UInt8) : digs l l.length = l.drop (if l[0]?.getD 0 = 45 then 1 else 0) := by unfold digs; rw [List.take_length]
theorem good_zero (l : List UInt8) : Good l 0 := fun k hk => absurd hk (by omega)
theorem good_step {l : List UInt8} {i : Nat} (h : Good l i) (hi : (i = 0 ∧ l[0]?.getD 0 = 45) ∨ (48 ≤ (l[i]?.getD 0).toNat ∧ (l[i]?.getD 0).toNat ≤ 57)) : Good l (i + 1) := fun k hk => by
  by_cases hki : k = i
  · subst hki; exact hi
  · exact h k (by omega)

theorem nDigits_le (k u : Nat) (h : u < 10 ^ (k + 1)) : nDigits u ≤ k + 1 := by
  induction k generalizing u with
  | zero => rw [nDigits_small (by simpa using h)]; omega
  | succ k ih =>
    by_cases hu : u < 10
    · rw [nDigits_small hu]; omega
    · rw [nDigits_big hu]
      have := ih (u / 10) (by rw [Nat.pow_succ] at h; omega)
      omega
theorem itoa_len (n : Int) (h : I64 n) : 1 ≤ (itoa n).length ∧ (itoa n).length ≤ 20 := by
  obtain ⟨h0, h1⟩ := h
  have hb : n.natAbs < 10 ^ (18 + 1) := by have : (10 : Nat) ^ (18 + 1) = 10000000000000000000 := rfl; omega
  have hl := nDigits_le 18 n.natAbs hb
  have hp := nDigits_pos n.natAbs
  unfold itoa
  split
  · simp only [List.length_cons, decDigits_length]; omega
  · rw [decDigits_length, show n.toNat = n.natAbs by omega]; omega
/-- Where the first sign stands in a numeral. -/
theorem itoa_head (n : Int) : ((itoa n)[0]?.getD 0 = 45 ↔ n < 0) ∧ (itoa n).drop (if (itoa n)[0]?.getD 0 = 45 then 1 else 0) = decDigits n.natAbs ∧ ∀ k, k < (itoa n).length → (k = 0 ∧ (itoa n)[0]?.getD 0 = 45) ∨ (48 ≤ ((itoa n)[k]?.getD 0).toNat ∧ ((itoa n)[k]?.getD 0).toNat ≤ 57) := by
  unfold itoa
  by_cases hn : n < 0
  · rw [if_pos hn]
    refine ⟨by simp [hn], by simp, fun k hk => ?_⟩
    cases k with
    | zero => exact .inl ⟨rfl, by simp⟩
    | succ k =>
      have hk' : k < (decDigits n.natAbs).length := by simpa using hk
      simp only [List.getElem?_cons_succ, List.getElem?_eq_getElem hk', Option.getD_some]
      exact .inr (decDigits_digit n.natAbs _ (List.getElem_mem hk'))
  · rw [if_neg hn, show n.toNat = n.natAbs by omega]
    have hd := decDigits_digit n.natAbs
    have hne := decDigits_ne n.natAbs
    have hpos : 0 < (decDigits n.natAbs).length := List.length_pos_iff.2 hne
    have h0 : (decDigits n.natAbs)[0]?.getD 0 ≠ 45 := by
      rw [List.getElem?_eq_getElem hpos]
      intro e
      have := hd _ (List.getElem_mem hpos)
      rw [Option.getD_some] at e
      rw [e] at this
      exact absurd this.1 (by decide)
    refine ⟨by simp only [h0, false_iff]; omega, by rw [if_neg h0]; rfl, fun k hk => .inr ?_⟩
    rw [List.getElem?_eq_getElem hk]
    exact hd _ (List.getElem_mem hk)
theorem pr_len {l : List UInt8} (h : l.length = 0 ∨ 20 < l.length) : PR l 0 false :=
  .inr ⟨rfl, rfl, fun n hn e => by have := itoa_len n hn; rw [e] at this; omega⟩
theorem pr_bad {l : List UInt8} {i : Nat} (hi : i < l.length) (h1 : ¬ (i = 0 ∧ l[0]?.getD 0 = 45)) (h2 : ¬ (48 ≤ (l[i]?.getD 0).toNat ∧ (l[i]?.getD 0).toNat ≤ 57)) : PR l 0 false :=
  .inr ⟨rfl, rfl, fun n _ e => by
    have := (itoa_head n).2.2 i (by rw [e]; exact hi)
    rw [e] at this
    rcases this with h | h
    · exact h1 h
    · exact h2 h⟩
/-- The number that the digits come to, taken as an int. -/
def asInt (neg : Bool) (u : Int) : Int := IntKind.i64.wrap (if neg then IntKind.u64.wrap (0 - u) else u)
theorem asInt_of (l : List UInt8) (n : Int) (hn : I64 n) (e : itoa n = l) :
    asInt (decide (l[0]?.getD 0 = 45)) ((dv (l.drop (if l[0]?.getD 0 = 45 then 1 else 0)) % 18446744073709551616 : Nat) : Int) = n := by
  obtain ⟨h1, h2, _⟩ := itoa_head n
  rw [e] at h1 h2
  rw [h2, dv_digits]
  obtain ⟨b0, b1⟩ := hn
  unfold asInt
  by_cases hneg : n < 0
  · rw [decide_eq_true (h1.2 hneg)]
    simp only [if_true]
    simp only [IntKind.wrap, IntKind.bits, IntKind.signed]
    simp
    omega
  · rw [decide_eq_false (fun h => hneg (h1.1 h))]
    simp only [Bool.false_eq_true, if_false]
    simp only [IntKind.wrap, IntKind.bits, IntKind.signed]
    simp
    omega
theorem pr_end (l : List UInt8) (n : Int) (hn : I64 n) (h : n = asInt (decide (l[0]?.getD 0 = 45)) ((dv (l.drop (if l[0]?.getD 0 = 45 then 1 else 0)) % 18446744073709551616 : Nat) : Int)) :
    (itoa n = l → PR l n true) ∧ (itoa n ≠ l → PR l 0 false) := by
  refine ⟨fun e => .inl ⟨rfl, e, hn⟩, fun e => .inr ⟨rfl, rfl, fun m hm em => e ?_⟩⟩
  have := asInt_of l m hm em
  rw [← h] at this
  rw [this]; exact em
end Go.Proofs.YtddimcicajlbgaaDoor
