/- Plain facts on sums of sixteen bits: no dump is imported. -/
import Derived.Test.YtddimcicajlbgaaDoorNumP
import Derived.Laws.BitsAllLaws
namespace Go.Proofs.YtddimcicajlbgaaDoor
open Go Go.Lib

/-- The sum of the first i bytes, as numbers of sixteen bits. -/
def sumTo (l : List UInt8) : Nat → Nat
  | 0 => 0
  | i + 1 => sumTo l i + (if i % 2 = 0 then 256 * (l[i]?.getD 0).toNat else (l[i]?.getD 0).toNat)
/-- What goes beyond sixteen bits added again, until nothing does. -/
def fold16 (s : Nat) : Nat := if s = 0 then 0 else (s - 1) % 65535 + 1
def chk (l : List UInt8) : Nat := 65535 - fold16 (sumTo l l.length)

theorem sumTo_le (l : List UInt8) (i : Nat) : sumTo l i ≤ 65280 * i := by
  induction i with
  | zero => simp [sumTo]
  | succ i ih =>
    have := (l[i]?.getD 0).toNat_lt
    simp only [sumTo]
    split <;> omega
theorem fold16_small (s : Nat) (h : s ≤ 65535) : fold16 s = s := by
  unfold fold16
  split <;> omega
theorem fold16_step (s : Nat) (h : 65535 < s) : fold16 (s / 65536 + s % 65536) = fold16 s := by
  unfold fold16
  rw [if_neg (by omega), if_neg (by omega)]
  omega
theorem fold16_le (s : Nat) : fold16 s ≤ 65535 := by
  unfold fold16
  split <;> omega
theorem chk_le (l : List UInt8) : chk l ≤ 65535 := by unfold chk; omega
theorem sum_even (l : List UInt8) (i : Nat) (x : UInt8) (hx : x = l[i]?.getD 0) (h : i % 2 = 0) (hs : sumTo l i ≤ 100000000000) :
    sumTo l (i + 1) = sumTo l i + 256 * x.toNat ∧ (sumTo l i + 256 * x.toNat < 18446744073709551616) := by
  have := x.toNat_lt
  exact ⟨by simp only [sumTo, if_pos h]; rw [hx], by omega⟩
theorem sum_odd (l : List UInt8) (i : Nat) (x : UInt8) (hx : x = l[i]?.getD 0) (h : ¬ i % 2 = 0) (hs : sumTo l i ≤ 100000000000) :
    sumTo l (i + 1) = sumTo l i + x.toNat ∧ (sumTo l i + x.toNat < 18446744073709551616) := by
  have := x.toNat_lt
  exact ⟨by simp only [sumTo, if_neg h]; rw [hx], by omega⟩
theorem and_walk (s : Nat) (h : s ≤ 100000000000) : bits BinOp.and IntKind.u64 (s : Int) 65535 = (s : Int) % 65536 := by
  show IntKind.u64.wrap (((BitVec.ofInt 64 (s : Int)) &&& (BitVec.ofInt 64 ((65535 : Nat) : Int))).toNat : Int) = _
  rw [show BitVec.ofInt 64 (s : Int) = BitVec.ofNat 64 s from BitVec.ofInt_natCast .., show BitVec.ofInt 64 ((65535 : Nat) : Int) = BitVec.ofNat 64 65535 from BitVec.ofInt_natCast ..]
  rw [BitVec.toNat_and, BitVec.toNat_ofNat, BitVec.toNat_ofNat, Nat.mod_eq_of_lt (by omega), Nat.mod_eq_of_lt (by omega), nat_mask16, wrap64u]
  omega
theorem not_walk (s : Nat) (h : s ≤ 65535) : bits BinOp.xor IntKind.u16 IntKind.u16.max (s : Int) = ((65535 - s : Nat) : Int) := by
  rw [show IntKind.u16.max = ((65535 : Nat) : Int) from rfl, u16_xor_nat 65535 s (by omega) (by omega)]
  have e : (65535 : Nat) ^^^ s = 65535 - s := by
    have h2 : (65535 - s) + s = 65535 := by omega
    apply Nat.eq_of_testBit_eq
    intro j
    rw [Nat.testBit_xor, show (65535 : Nat) = 2 ^ 16 - 1 from rfl, Nat.testBit_two_pow_sub_one, show 2 ^ 16 - 1 - s = 2 ^ 16 - (s + 1) by omega, Nat.testBit_two_pow_sub_succ (by omega)]
    by_cases hj : j < 16
    · simp [hj]
    · have hs : s < 2 ^ j := Nat.lt_of_lt_of_le (show s < 2 ^ 16 by omega) (Nat.pow_le_pow_right (by decide) (by omega))
      simp [hj, Nat.testBit_lt_two_pow hs]
  rw [e]
end Go.Proofs.YtddimcicajlbgaaDoor
