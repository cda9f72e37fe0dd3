/- Plain facts on decimal digits: no dump is imported. -/
import Derived.Lib.ItoaNum
import Derived.Lib.ItoaLen
import Derived.Lib.AtoiAll
namespace Go.Proofs.YtddimcicajlbgaaDoor
open Go Go.Lib

def I64 (n : Int) : Prop := -9223372036854775808 ≤ n ∧ n ≤ 9223372036854775807
/-- What Parse answers: the number whose digits these are, or 0 and false. -/
def PR (l : List UInt8) (x : Int) (b : Bool) : Prop :=
  (b = true ∧ itoa x = l ∧ I64 x) ∨ (b = false ∧ x = 0 ∧ ∀ n, I64 n → itoa n ≠ l)

theorem ofNat48 (d : Nat) (h : d < 10) : (UInt8.ofNat (48 + d)).toNat = 48 + d := by
  simp; omega
theorem decDigits_snoc (u : Nat) (h : ¬ u < 10) : decDigits u = decDigits (u / 10) ++ [UInt8.ofNat (48 + u % 10)] := by rw [decDigits, dif_neg h]
theorem decDigits_one' (u : Nat) (h : u < 10) : decDigits u = [UInt8.ofNat (48 + u)] := by rw [decDigits, dif_pos h]
theorem decDigits_digit (u : Nat) : ∀ c ∈ decDigits u, 48 ≤ c.toNat ∧ c.toNat ≤ 57 := by
  induction u using Nat.strongRecOn with
  | _ u ih =>
    by_cases h : u < 10
    · rw [decDigits_one' u h]
      intro c hc
      simp only [List.mem_singleton] at hc
      rw [hc, ofNat48 u h]; omega
    · rw [decDigits_snoc u h]
      intro c hc
      rcases List.mem_append.1 hc with hc | hc
      · exact ih (u / 10) (by omega) c hc
      · simp only [List.mem_singleton] at hc
        rw [hc, ofNat48 (u % 10) (by omega)]; omega
theorem decDigits_ne (u : Nat) : decDigits u ≠ [] := by
  by_cases h : u < 10
  · rw [decDigits_one' u h]; simp
  · rw [decDigits_snoc u h]; simp
theorem parse_snoc (l : List UInt8) (c : UInt8) : ∀ (acc v : Nat), parseUint10 acc l = .ok v → parseUint10 acc (l ++ [c]) = parseUint10 v [c] := by
  induction l with
  | nil => intro acc v h; simp only [parseUint10] at h; injection h with h; subst h; rfl
  | cons d r ih =>
    intro acc v h
    simp only [List.cons_append, parseUint10] at h ⊢
    split at h
    · rename_i h1
      rw [if_pos h1]
      split at h
      · cases h
      · rename_i h2
        rw [if_neg h2]
        split at h
        · cases h
        · rename_i h3
          rw [if_neg h3]
          have := ih _ _ h
          simp only [parseUint10] at this
          exact this
    · cases h
theorem parse_digits (u : Nat) (hu : u < 18446744073709551616) : parseUint10 0 (decDigits u) = .ok u := by
  induction u using Nat.strongRecOn with
  | _ u ih =>
    by_cases h : u < 10
    · rw [decDigits_one' u h]
      simp only [parseUint10, ofNat48 u h]
      rw [if_pos (by omega), if_neg (by omega), if_neg (by omega)]
      congr 1; omega
    · rw [decDigits_snoc u h, parse_snoc _ _ _ _ (ih (u / 10) (by omega) (by omega))]
      simp only [parseUint10, ofNat48 (u % 10) (by omega)]
      rw [if_pos (by omega), if_neg (by omega), if_neg (by omega)]
      congr 1; omega
theorem parseMag_digits (u : Nat) (hu : u < 18446744073709551616) : parseMag (decDigits u) = .ok u := by
  unfold parseMag
  rw [if_neg (decDigits_ne u), parse_digits u hu]
theorem atoi_itoa (n : Int) (h : I64 n) : atoiAll (itoa n) = .ok n := by
  obtain ⟨h0, h1⟩ := h
  unfold itoa
  by_cases hn : n < 0
  · rw [if_pos hn]
    unfold atoiAll
    simp only [show (45 : UInt8).toNat = 45 from rfl, or_true, if_true]
    rw [parseMag_digits _ (by omega)]
    simp only [not_true, false_and, if_false, true_and]
    rw [if_neg (by omega)]
    congr 1; omega
  · rw [if_neg hn]
    have hd := parseMag_digits n.toNat (by omega)
    have hdig := decDigits_digit n.toNat
    have hne := decDigits_ne n.toNat
    generalize decDigits n.toNat = l at *
    cases l with
    | nil => exact absurd rfl hne
    | cons c r =>
      have hc := hdig c (by simp)
      unfold atoiAll
      simp only
      rw [if_neg (by omega), hd]
      simp only
      rw [if_neg (by omega), if_neg (by omega), if_neg (by omega)]
      congr 1; omega
theorem itoa_inj (m n : Int) (hm : I64 m) (hn : I64 n) (h : itoa m = itoa n) : m = n := by
  have h1 := atoi_itoa m hm
  rw [h, atoi_itoa n hn] at h1
  injection h1 with h1
  exact h1.symm
theorem pr_unique {l : List UInt8} {x y : Int} {a b : Bool} (h1 : PR l x a) (h2 : PR l y b) : x = y ∧ a = b := by
  rcases h1 with ⟨rfl, e1, i1⟩ | ⟨rfl, rfl, n1⟩ <;> rcases h2 with ⟨rfl, e2, i2⟩ | ⟨rfl, rfl, n2⟩
  · exact ⟨itoa_inj _ _ i1 i2 (e1.trans e2.symm), rfl⟩
  · exact absurd e1 (n2 _ i1)
  · exact absurd e2 (n1 _ i2)
  · exact ⟨rfl, rfl⟩
theorem pr_of_atoi {l : List UInt8} {v : Int} (h : atoiAll l = .ok v) (hv : I64 v) : (itoa v = l → PR l v true) ∧ (itoa v ≠ l → PR l 0 false) := by
  refine ⟨fun e => .inl ⟨rfl, e, hv⟩, fun e => .inr ⟨rfl, rfl, fun n hn en => e ?_⟩⟩
  have h1 := atoi_itoa n hn
  rw [en, h] at h1
  injection h1 with h1
  rw [h1, en]
theorem pr_of_fail {l : List UInt8} (h : ∀ v, atoiAll l ≠ .ok v) : PR l 0 false := by
  refine .inr ⟨rfl, rfl, fun n hn en => h n ?_⟩
  rw [← en]; exact atoi_itoa n hn
theorem atoiAll_I64 {l : List UInt8} {v : Int} (h : atoiAll l = .ok v) : I64 v := by
  unfold atoiAll at h
  cases l with
  | nil => cases h
  | cons c r =>
    simp only at h
    split at h
    · cases h
    · cases h
    · split at h
      · cases h
      · split at h
        · cases h
        · injection h with h
          unfold I64
          split at h <;> omega
end Go.Proofs.YtddimcicajlbgaaDoor
