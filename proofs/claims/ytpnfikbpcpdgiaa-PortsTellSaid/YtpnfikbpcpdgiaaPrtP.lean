/- Ports, plain (no dump is imported): what is wrong with a call, what becomes of lines, clock and pool, which line is pending. -/
import Derived.Test.YtpnfikbpcpdgiaaNumP
namespace Go.Proofs.Ytpnfikbpcpdgiaa

def chkP (T n : Nat) : Bool := decide (T ≤ 1099511627776 ∧ n ≤ 64)
def formP (T n : Nat) : Int := if chkP T n = true then 0 else 3
def lineP (T n : Nat) (z : Int) : Int := if chkP T n = true then (if 0 ≤ z ∧ z ≤ 31 then 0 else 2) else 3
def tickP (T n t : Nat) : Int := if chkP T n = true then (if 1099511627776 < t then 2 else if t < T then 8 else 0) else 3
def fillP (T n m : Nat) : Int := if chkP T n = true then (if n + m ≤ 64 then 0 else 4) else 3
def drawP (T n : Nat) (z : Int) : Int := if chkP T n = true then (if z < 0 then 2 else if (n : Int) < z then 7 else 0) else 3
def setB (x k : Nat) : Nat := x ||| 2 ^ k
def clrB (x k : Nat) : Nat := x &&& (4294967295 - 2 ^ k)
def raiseP (L T n : Nat) (z : Int) : Nat := if lineP T n z = 0 then setB L z.toNat else L
def doneP (L T n : Nat) (z : Int) : Nat := if lineP T n z = 0 then clrB L z.toNat else L
def hearP (M T n : Nat) (z : Int) (on : Bool) : Nat := if lineP T n z = 0 then (if on = true then setB M z.toNat else clrB M z.toNat) else M
def tickT (T n t : Nat) : Nat := if tickP T n t = 0 then t else T
def fillL (T : Nat) (l m : List UInt8) : List UInt8 := if fillP T l.length m.length = 0 then l ++ m else l
def takenL (T : Nat) (l : List UInt8) (z : Int) : List UInt8 := if drawP T l.length z = 0 then l.take z.toNat else []
def leftL (T : Nat) (l : List UInt8) (z : Int) : List UInt8 := if drawP T l.length z = 0 then l.drop z.toNat else l
/-- The first of f bits from k on that is set. -/
def pendN (x : Nat) : Nat → Nat → Int
  | _, 0 => -1
  | k, f + 1 => if x.testBit k = true then (k : Int) else pendN x (k + 1) f
def pendP (L M T n : Nat) : Int := if chkP T n = true then pendN (L &&& M) 0 32 else -1

theorem chkP_true {T n : Nat} : chkP T n = true ↔ T ≤ 1099511627776 ∧ n ≤ 64 := by unfold chkP; exact decide_eq_true_iff
theorem chkP_false {T n : Nat} : chkP T n = false ↔ ¬ (T ≤ 1099511627776 ∧ n ≤ 64) := by unfold chkP; exact decide_eq_false_iff_not
theorem form_cases (T n : Nat) : (formP T n = 0 ∧ chkP T n = true) ∨ (formP T n = 3 ∧ chkP T n = false) := by
  unfold formP
  cases h : chkP T n with
  | true => exact .inl ⟨if_pos rfl, rfl⟩
  | false => exact .inr ⟨if_neg (by decide), rfl⟩
theorem line_cases (T n : Nat) (z : Int) : (lineP T n z = 3 ∧ chkP T n = false ∧ formP T n = 3) ∨ (lineP T n z = 2 ∧ chkP T n = true ∧ formP T n = 0 ∧ ¬ (0 ≤ z ∧ z ≤ 31)) ∨ (lineP T n z = 0 ∧ chkP T n = true ∧ formP T n = 0 ∧ 0 ≤ z ∧ z ≤ 31) := by
  unfold lineP formP
  cases h : chkP T n with
  | false => exact .inl ⟨if_neg (by decide), rfl, if_neg (by decide)⟩
  | true =>
    rw [if_pos rfl, if_pos rfl]
    by_cases h2 : 0 ≤ z ∧ z ≤ 31
    · rw [if_pos h2]; exact .inr (.inr ⟨rfl, rfl, rfl, h2⟩)
    · rw [if_neg h2]; exact .inr (.inl ⟨rfl, rfl, rfl, h2⟩)
theorem tick_cases (T n t : Nat) : (tickP T n t = 3 ∧ chkP T n = false ∧ formP T n = 3) ∨ (tickP T n t = 2 ∧ chkP T n = true ∧ formP T n = 0 ∧ 1099511627776 < t) ∨ (tickP T n t = 8 ∧ chkP T n = true ∧ formP T n = 0 ∧ t ≤ 1099511627776 ∧ t < T) ∨ (tickP T n t = 0 ∧ chkP T n = true ∧ formP T n = 0 ∧ t ≤ 1099511627776 ∧ T ≤ t) := by
  unfold tickP formP
  cases h : chkP T n with
  | false => exact .inl ⟨if_neg (by decide), rfl, if_neg (by decide)⟩
  | true =>
    rw [if_pos rfl, if_pos rfl]
    by_cases h2 : 1099511627776 < t
    · rw [if_pos h2]; exact .inr (.inl ⟨rfl, rfl, rfl, h2⟩)
    · rw [if_neg h2]
      by_cases h3 : t < T
      · rw [if_pos h3]; exact .inr (.inr (.inl ⟨rfl, rfl, rfl, by omega, h3⟩))
      · rw [if_neg h3]; exact .inr (.inr (.inr ⟨rfl, rfl, rfl, by omega, by omega⟩))
theorem fill_cases (T n m : Nat) : (fillP T n m = 3 ∧ chkP T n = false ∧ formP T n = 3) ∨ (fillP T n m = 4 ∧ chkP T n = true ∧ formP T n = 0 ∧ 64 < n + m) ∨ (fillP T n m = 0 ∧ chkP T n = true ∧ formP T n = 0 ∧ n + m ≤ 64) := by
  unfold fillP formP
  cases h : chkP T n with
  | false => exact .inl ⟨if_neg (by decide), rfl, if_neg (by decide)⟩
  | true =>
    rw [if_pos rfl, if_pos rfl]
    by_cases h2 : n + m ≤ 64
    · rw [if_pos h2]; exact .inr (.inr ⟨rfl, rfl, rfl, h2⟩)
    · rw [if_neg h2]; exact .inr (.inl ⟨rfl, rfl, rfl, by omega⟩)
theorem draw_cases (T n : Nat) (z : Int) : (drawP T n z = 3 ∧ chkP T n = false ∧ formP T n = 3) ∨ (drawP T n z = 2 ∧ chkP T n = true ∧ formP T n = 0 ∧ z < 0) ∨ (drawP T n z = 7 ∧ chkP T n = true ∧ formP T n = 0 ∧ 0 ≤ z ∧ (n : Int) < z) ∨ (drawP T n z = 0 ∧ chkP T n = true ∧ formP T n = 0 ∧ 0 ≤ z ∧ z ≤ (n : Int)) := by
  unfold drawP formP
  cases h : chkP T n with
  | false => exact .inl ⟨if_neg (by decide), rfl, if_neg (by decide)⟩
  | true =>
    rw [if_pos rfl, if_pos rfl]
    by_cases h2 : z < 0
    · rw [if_pos h2]; exact .inr (.inl ⟨rfl, rfl, rfl, h2⟩)
    · rw [if_neg h2]
      by_cases h3 : (n : Int) < z
      · rw [if_pos h3]; exact .inr (.inr (.inl ⟨rfl, rfl, rfl, by omega, h3⟩))
      · rw [if_neg h3]; exact .inr (.inr (.inr ⟨rfl, rfl, rfl, by omega, by omega⟩))

theorem pow_lt32 {k : Nat} (h : k ≤ 31) : 2 ^ k < 4294967296 := Nat.lt_of_le_of_lt (Nat.pow_le_pow_right (by decide) h) (by decide)
theorem setB_lt {x k : Nat} (h : x < 4294967296) (hk : k ≤ 31) : setB x k < 4294967296 := Nat.or_lt_two_pow (n := 32) h (pow_lt32 hk)
theorem clrB_lt {x k : Nat} (h : x < 4294967296) : clrB x k < 4294967296 := Nat.lt_of_le_of_lt Nat.and_le_left h
theorem clr_bit {x k i : Nat} (hk : k ≤ 31) (hx : x < 4294967296) : (clrB x k).testBit i = (x.testBit i && !decide (k = i)) := by
  have h0 := pow_lt32 hk
  unfold clrB
  rw [Nat.testBit_and, show 4294967295 - 2 ^ k = 2 ^ 32 - (2 ^ k + 1) by omega, Nat.testBit_two_pow_sub_succ (by simpa using h0), Nat.testBit_two_pow]
  by_cases hi : i < 32
  · rw [decide_eq_true hi, Bool.true_and]
  · have : x.testBit i = false := Nat.testBit_lt_two_pow (Nat.lt_of_lt_of_le (show x < 2 ^ 32 from hx) (Nat.pow_le_pow_right (by decide) (by omega)))
    rw [this, Bool.false_and, Bool.false_and]
theorem set_bit {x k i : Nat} : (setB x k).testBit i = (x.testBit i || decide (k = i)) := by
  unfold setB
  rw [Nat.testBit_or, Nat.testBit_two_pow]
theorem set_clr {x k : Nat} (hk : k ≤ 31) (hx : x < 4294967296) : setB (clrB x k) k = setB x k := by
  apply Nat.eq_of_testBit_eq
  intro i
  rw [set_bit, set_bit, clr_bit hk hx]
  cases x.testBit i <;> cases decide (k = i) <;> rfl
theorem bit_at {x k : Nat} : (x &&& 2 ^ k = 0) ↔ x.testBit k = false := by
  constructor
  · intro h
    have h2 : (x &&& 2 ^ k).testBit k = false := by rw [h]; exact Nat.zero_testBit _
    rw [Nat.testBit_and, Nat.testBit_two_pow, decide_eq_true rfl, Bool.and_true] at h2
    exact h2
  · intro h
    apply Nat.eq_of_testBit_eq
    intro i
    rw [Nat.testBit_and, Nat.testBit_two_pow, Nat.zero_testBit]
    by_cases hi : k = i
    · rw [← hi, h, Bool.false_and]
    · rw [decide_eq_false hi, Bool.and_false]
/-- What the loops of Pending know. -/
theorem pendN_succ (x k f : Nat) (h : x.testBit k = false) : pendN x k (f + 1) = pendN x (k + 1) f := by
  rw [pendN, if_neg (by rw [h]; decide)]
theorem pendN_hit (x k f : Nat) (h : x.testBit k = true) : pendN x k (f + 1) = (k : Int) := by
  rw [pendN, if_pos h]
theorem half_bit (x k : Nat) : (x / 2 ^ k % 2 = 1) ↔ x.testBit k = true := by
  rw [Nat.testBit_eq_decide_div_mod_eq]
  simp
/-- What is pending, or not. -/
theorem pendN_spec (x : Nat) : ∀ (f k : Nat), (∃ j : Nat, pendN x k f = (j : Int) ∧ k ≤ j ∧ j < k + f ∧ x.testBit j = true ∧ ∀ i, k ≤ i → i < j → x.testBit i = false) ∨ (pendN x k f = -1 ∧ ∀ i, k ≤ i → i < k + f → x.testBit i = false)
  | 0, k => .inr ⟨rfl, fun i h1 h2 => by omega⟩
  | f + 1, k => by
    cases h : x.testBit k with
    | true => exact .inl ⟨k, pendN_hit x k f h, Nat.le_refl _, by omega, h, fun i h1 h2 => absurd h2 (by omega)⟩
    | false =>
      rw [pendN_succ x k f h]
      rcases pendN_spec x f (k + 1) with ⟨j, h1, h2, h3, h4, h5⟩ | ⟨h1, h2⟩
      · refine .inl ⟨j, h1, by omega, by omega, h4, fun i hi hj => ?_⟩
        by_cases hk : i = k
        · rw [hk]; exact h
        · exact h5 i (by omega) hj
      · refine .inr ⟨h1, fun i hi hj => ?_⟩
        by_cases hk : i = k
        · rw [hk]; exact h
        · exact h2 i (by omega) (by omega)
theorem and_zero {x : Nat} (hx : x < 4294967296) (h : ∀ i, i < 32 → x.testBit i = false) : x = 0 := by
  apply Nat.eq_of_testBit_eq
  intro i
  rw [Nat.zero_testBit]
  by_cases hi : i < 32
  · exact h i hi
  · exact Nat.testBit_lt_two_pow (Nat.lt_of_lt_of_le (show x < 2 ^ 32 from hx) (Nat.pow_le_pow_right (by decide) (by omega)))

example : pendP 8 0 0 0 = -1 := by decide
example : pendP 8 8 0 0 = 3 := by decide
end Go.Proofs.Ytpnfikbpcpdgiaa
