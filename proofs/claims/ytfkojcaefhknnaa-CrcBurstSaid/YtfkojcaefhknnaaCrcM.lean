/- Plain facts on check sums of 32 bits (no dump is imported): a sum is linear, and a step of it can be taken back; so bits within 32 side by side show. -/
import Derived.Test.YtfkojcaefhknnaaNumP
namespace Go.Proofs.Ytfkojcaefhknnaa
open Go Go.Lib

/-- The polynomial. -/
def crcPoly : Nat := 2197175160
/-- All ones. -/
def crcOnes : Nat := 4294967295
/-- One bit's step. -/
def step (x : Nat) : Nat := if x % 2 = 1 then (x / 2) ^^^ crcPoly else x / 2
def steps : Nat → Nat → Nat
  | 0, x => x
  | n + 1, x => steps n (step x)
def nextN (x : Nat) (c : UInt8) : Nat := steps 8 (x ^^^ c.toNat)
/-- A sum that goes on from x. -/
def R (x : Nat) (l : List UInt8) : Nat := l.foldl nextN x
/-- The sum. -/
def crcOf (l : List UInt8) : Nat := crcOnes - R crcOnes l
def crcClosed (l : List UInt8) : List UInt8 := l ++ leB (crcOf l) 4
/-- Whether the sum stands behind them. -/
def crcHolds (l : List UInt8) : Bool := decide (4 ≤ l.length) && decide (l.drop (l.length - 4) = leB (crcOf (l.take (l.length - 4))) 4)

theorem poly_lt : crcPoly < 4294967296 := by decide
theorem poly_ge : 2147483648 ≤ crcPoly := by decide
theorem xor_lt32 {a b : Nat} (ha : a < 4294967296) (hb : b < 4294967296) : a ^^^ b < 4294967296 := Nat.xor_lt_two_pow (n := 32) ha hb
theorem step_lt {x : Nat} (h : x < 4294967296) : step x < 4294967296 := by
  unfold step
  split
  · exact xor_lt32 (by omega) poly_lt
  · omega
theorem step_lin (a b : Nat) : step (a ^^^ b) = step a ^^^ step b := by
  have h2 : (a ^^^ b) / 2 = a / 2 ^^^ b / 2 := Nat.xor_div_two
  have h1 : (a ^^^ b) % 2 = (a + b) % 2 := by
    have := @Nat.xor_mod_two_eq_one a b
    omega
  unfold step
  rw [h1, h2]
  by_cases ha : a % 2 = 1 <;> by_cases hb : b % 2 = 1
  · rw [if_neg (by omega), if_pos ha, if_pos hb]
    rw [show (a / 2 ^^^ crcPoly) ^^^ (b / 2 ^^^ crcPoly) = (a / 2 ^^^ b / 2) ^^^ (crcPoly ^^^ crcPoly) by ac_rfl, Nat.xor_self, Nat.xor_zero]
  · rw [if_pos (by omega), if_pos ha, if_neg hb]; ac_rfl
  · rw [if_pos (by omega), if_neg ha, if_pos hb]; ac_rfl
  · rw [if_neg (by omega), if_neg ha, if_neg hb]
theorem xor_eq_zero {a b : Nat} (h : a ^^^ b = 0) : a = b := by
  have : a ^^^ (a ^^^ b) = a ^^^ 0 := by rw [h]
  rw [← Nat.xor_assoc, Nat.xor_self, Nat.zero_xor, Nat.xor_zero] at this
  exact this.symm
theorem step_zero : step 0 = 0 := by decide
theorem step_inj0 {x : Nat} (hx : x < 4294967296) (h : step x = 0) : x = 0 := by
  unfold step at h
  split at h
  · have h1 := xor_eq_zero h
    have := poly_ge
    omega
  · omega
theorem step_two (m : Nat) : step (2 * m) = m := by
  unfold step
  rw [if_neg (by omega)]
  omega
theorem steps_zero (n : Nat) : steps n 0 = 0 := by
  induction n with
  | zero => rfl
  | succ n ih => show steps n (step 0) = 0; rw [step_zero, ih]
theorem steps_lin (n a b : Nat) : steps n (a ^^^ b) = steps n a ^^^ steps n b := by
  induction n generalizing a b with
  | zero => rfl
  | succ n ih => show steps n (step (a ^^^ b)) = _; rw [step_lin, ih]; rfl
theorem steps_lt (n : Nat) {x : Nat} (h : x < 4294967296) : steps n x < 4294967296 := by
  induction n generalizing x with
  | zero => exact h
  | succ n ih => exact ih (step_lt h)
theorem steps_inj0 (n : Nat) {x : Nat} (hx : x < 4294967296) (h : steps n x = 0) : x = 0 := by
  induction n generalizing x with
  | zero => exact h
  | succ n ih => exact step_inj0 hx (ih (step_lt hx) h)
theorem steps_add (m n x : Nat) : steps (m + n) x = steps n (steps m x) := by
  induction m generalizing x with
  | zero => rw [Nat.zero_add]; rfl
  | succ m ih => rw [show m + 1 + n = (m + n) + 1 by omega]; exact ih (step x)
theorem steps_mul (n m : Nat) : steps n (m * 2 ^ n) = m := by
  induction n generalizing m with
  | zero => simp [steps]
  | succ n ih =>
    show steps n (step (m * 2 ^ (n + 1))) = m
    rw [show m * 2 ^ (n + 1) = 2 * (m * 2 ^ n) by rw [Nat.pow_succ, ← Nat.mul_assoc, Nat.mul_comm], step_two, ih]
theorem nextN_lt {x : Nat} (h : x < 4294967296) (c : UInt8) : nextN x c < 4294967296 :=
  steps_lt 8 (xor_lt32 h (by have := c.toNat_lt; omega))
theorem R_lt {x : Nat} (h : x < 4294967296) (l : List UInt8) : R x l < 4294967296 := by
  induction l generalizing x with
  | nil => exact h
  | cons c r ih => exact ih (nextN_lt h c)
theorem R_append (x : Nat) (a b : List UInt8) : R x (a ++ b) = R (R x a) b := by simp [R, List.foldl_append]
theorem R_nil (x : Nat) : R x [] = x := rfl
theorem R_cons (x : Nat) (c : UInt8) (l : List UInt8) : R x (c :: l) = R (nextN x c) l := rfl
theorem R_snoc (x : Nat) (l : List UInt8) (c : UInt8) : R x (l ++ [c]) = nextN (R x l) c := by rw [R_append]; rfl
theorem R_take (x : Nat) (l : List UInt8) (i : Nat) (h : i < l.length) : R x (l.take (i + 1)) = nextN (R x (l.take i)) (l[i]?.getD 0) := by
  rw [List.take_succ_eq_append_getElem h, R_snoc, List.getElem?_eq_getElem h]; rfl
/-- What is turned ahead shows behind. -/
theorem R_turned (x e : Nat) (l : List UInt8) : R (x ^^^ e) l = R x l ^^^ steps (8 * l.length) e := by
  induction l generalizing x e with
  | nil => rfl
  | cons c r ih =>
    have h : nextN (x ^^^ e) c = nextN x c ^^^ steps 8 e := by
      unfold nextN
      rw [show (x ^^^ e) ^^^ c.toNat = (x ^^^ c.toNat) ^^^ e by ac_rfl, steps_lin]
    rw [R_cons, R_cons, h, ih, ← steps_add]
    congr 2
    simp only [List.length_cons]
    omega
theorem xor_add {a b n : Nat} (h : a < 2 ^ n) : a ^^^ (b * 2 ^ n) = a + b * 2 ^ n := by
  apply Nat.eq_of_testBit_eq
  intro i
  rw [Nat.add_comm, Nat.mul_comm, Nat.testBit_two_pow_mul_add _ h, Nat.testBit_xor, Nat.testBit_two_pow_mul]
  by_cases hi : i < n
  · simp [hi, show ¬ n ≤ i by omega]
  · have : a.testBit i = false := Nat.testBit_lt_two_pow (Nat.lt_of_lt_of_le h (Nat.pow_le_pow_right (by decide) (by omega)))
    simp [hi, this, show n ≤ i by omega]
theorem pow8 (k : Nat) : (256 : Nat) ^ k = 2 ^ (8 * k) := by rw [Nat.pow_mul]
/-- A number taken in byte by byte. -/
theorem R_leB (y s k : Nat) : R y (leB s k) = steps (8 * k) (y ^^^ (s % 256 ^ k)) := by
  induction k with
  | zero => simp [leB, R, steps, Nat.mod_one]
  | succ k ih =>
    rw [leB_succ, R_snoc, ih]
    unfold nextN
    have hb : (UInt8.ofNat (s / 256 ^ k)).toNat = s / 256 ^ k % 256 := by simp
    rw [hb]
    generalize hq : s / 256 ^ k % 256 = q
    have e : s % 256 ^ (k + 1) = (s % 256 ^ k) ^^^ (q * 2 ^ (8 * k)) := by
      rw [xor_add (by rw [← pow8]; exact Nat.mod_lt _ (Nat.pow_pos (by decide))), ← pow8, Nat.pow_succ, Nat.mod_mul, hq, Nat.mul_comm q]
    rw [e, ← Nat.xor_assoc, show 8 * (k + 1) = 8 * k + 8 by omega, steps_add, steps_lin (8 * k) _ (q * 2 ^ (8 * k)), steps_mul]
theorem crcOf_lt (l : List UInt8) : crcOf l < 4294967296 := by unfold crcOf crcOnes; omega
theorem ones_lt : crcOnes < 4294967296 := by decide
theorem not_xor {a : Nat} (h : a < 4294967296) : crcOnes - a = crcOnes ^^^ a := by
  apply Nat.eq_of_testBit_eq
  intro i
  rw [show crcOnes - a = 2 ^ 32 - (a + 1) by unfold crcOnes; omega, Nat.testBit_two_pow_sub_succ h, Nat.testBit_xor, show crcOnes = 2 ^ 32 - 1 by decide, Nat.testBit_two_pow_sub_one]
  by_cases hi : i < 32
  · simp [hi]
  · have : a.testBit i = false := Nat.testBit_lt_two_pow (Nat.lt_of_lt_of_le h (Nat.pow_le_pow_right (n := 2) (by decide) (show 32 ≤ i by omega)))
    simp [hi, this]
/-- What is closed comes to one sum, whatever it is. -/
theorem R_closed (l : List UInt8) : R crcOnes (crcClosed l) = steps 32 crcOnes := by
  unfold crcClosed
  rw [R_append, R_leB, Nat.mod_eq_of_lt (by have := crcOf_lt l; exact this)]
  have h := R_lt ones_lt l
  unfold crcOf
  rw [not_xor h, ← Nat.xor_assoc, Nat.xor_comm _ crcOnes, Nat.xor_assoc, Nat.xor_self, Nat.xor_zero]
theorem closed_length (l : List UInt8) : (crcClosed l).length = l.length + 4 := by simp [crcClosed]
theorem holds_closed (l : List UInt8) : crcHolds (crcClosed l) = true := by
  unfold crcHolds
  rw [closed_length]
  simp [crcClosed]
theorem closed_of_holds (l : List UInt8) (h : crcHolds l = true) : 4 ≤ l.length ∧ crcClosed (l.take (l.length - 4)) = l := by
  unfold crcHolds at h
  rw [Bool.and_eq_true, decide_eq_true_eq, decide_eq_true_eq] at h
  refine ⟨h.1, ?_⟩
  unfold crcClosed
  rw [← h.2, List.take_append_drop]
theorem R_holds (l : List UInt8) (h : crcHolds l = true) : R crcOnes l = steps 32 crcOnes := by
  rw [← (closed_of_holds l h).2, R_closed]
/-- One bit turned. -/
theorem R_bit (x : Nat) (l : List UInt8) (q r : Nat) (hq : q < l.length) (hr : r < 8) (y : UInt8) (hy : y.toNat = (l[q]?.getD 0).toNat ^^^ 2 ^ r) :
    R x (l.set q y) = R x l ^^^ steps (8 * l.length - (8 * q + r)) 1 := by
  have e1 : l.set q y = l.take q ++ y :: l.drop (q + 1) := List.set_eq_take_append_cons_drop .. |>.trans (if_pos hq)
  have e2 : l = l.take q ++ (l[q]?.getD 0) :: l.drop (q + 1) := by
    rw [List.getElem?_eq_getElem hq]
    simp
  have h : ∀ z, nextN z y = nextN z (l[q]?.getD 0) ^^^ steps (8 - r) 1 := by
    intro z
    unfold nextN
    rw [hy, ← Nat.xor_assoc, steps_lin 8 _ (2 ^ r)]
    congr 1
    rw [show 8 = r + (8 - r) by omega, steps_add, show (2 : Nat) ^ r = 1 * 2 ^ r by omega, steps_mul]
    congr 1
    omega
  rw [e1]
  conv => rhs; rw [e2]
  rw [R_append, R_cons, h, R_turned, ← steps_add, R_append, R_cons]
  congr 2
  simp only [List.length_append, List.length_cons, List.length_take, List.length_drop]
  omega
/-- What j of the bits, turned from the bit f on, do to the sum of n bits. -/
def turnedBy (n f bits j : Nat) : Nat := steps (n - f) (bits % 2 ^ j)
theorem turnedBy_zero (n f bits : Nat) : turnedBy n f bits 0 = 0 := by unfold turnedBy; rw [Nat.pow_zero, Nat.mod_one, steps_zero]
theorem turnedBy_off (n f bits j : Nat) (h : bits / 2 ^ j % 2 = 0) : turnedBy n f bits (j + 1) = turnedBy n f bits j := by
  unfold turnedBy
  rw [Nat.pow_succ, Nat.mod_mul, h]
  simp
theorem turnedBy_on (n f bits j : Nat) (h : bits / 2 ^ j % 2 = 1) (hn : f + j ≤ n) : turnedBy n f bits (j + 1) = turnedBy n f bits j ^^^ steps (n - (f + j)) 1 := by
  unfold turnedBy
  have e : bits % 2 ^ (j + 1) = (bits % 2 ^ j) ^^^ (1 * 2 ^ j) := by
    rw [xor_add (Nat.mod_lt _ (Nat.pow_pos (by decide))), Nat.pow_succ, Nat.mod_mul, h, Nat.mul_comm]
  rw [e, steps_lin]
  congr 1
  rw [show n - f = j + (n - (f + j)) by omega, steps_add, steps_mul]
theorem turnedBy_all (n f bits : Nat) (hb : bits < 4294967296) (h : turnedBy n f bits 32 = 0) : bits = 0 := by
  unfold turnedBy at h
  rw [Nat.mod_eq_of_lt (show bits < 2 ^ 32 from hb)] at h
  exact steps_inj0 _ hb h
/-- TURNED BITS: bytes that hold, of which some bits within 32 side by side are turned, do not. -/
theorem burst (l t : List UInt8) (f bits : Nat) (hb : bits < 4294967296) (hl : crcHolds l = true) (hR : R crcOnes t = R crcOnes l ^^^ turnedBy (8 * l.length) f bits 32) (h0 : bits ≠ 0) : crcHolds t = false := by
  rw [Bool.eq_false_iff]
  intro ht
  have h1 := R_holds l hl
  have h2 := R_holds t ht
  rw [h1, h2] at hR
  have h3 : turnedBy (8 * l.length) f bits 32 = 0 := by
    have : steps 32 crcOnes ^^^ steps 32 crcOnes = steps 32 crcOnes ^^^ (steps 32 crcOnes ^^^ turnedBy (8 * l.length) f bits 32) := by rw [← hR]
    rw [Nat.xor_self, ← Nat.xor_assoc, Nat.xor_self, Nat.zero_xor] at this
    exact this.symm
  exact h0 (turnedBy_all _ _ _ hb h3)
end Go.Proofs.Ytfkojcaefhknnaa
