/- What ports.Pending answers, and the document's own. -/
import Derived.Test.YtpnfikbpcpdgiaaPrtA
namespace Go.Proofs.Ytpnfikbpcpdgiaa
open Go.RowKit Go.Lib

theorem pend_step {x i : Nat} {R : Int} (hi : i < 32) (h : pendN x i (32 - i) = R) (hb : x.testBit i = false) : pendN x (i + 1) (32 - (i + 1)) = R := by
  rw [← h, show 32 - i = (32 - (i + 1)) + 1 by omega, pendN_succ x i _ hb]
theorem pend_hit {x i : Nat} {R : Int} (hi : i < 32) (h : pendN x i (32 - i) = R) (hb : x.testBit i = true) : R = (i : Int) := by
  rw [← h, show 32 - i = (32 - (i + 1)) + 1 by omega, pendN_hit x i _ hb]
set_option maxHeartbeats 4000000 in
set_option maxRecDepth 100000 in
theorem pending_any (L M T : Nat) (hL : L < 4294967296) (hM : M < 4294967296) (a : Option Addr) (n c : Nat) (hn : n ≤ maxLen) (R : Int) (hR : pendP L M T n = R) (w : World) :
    Calls Try.prog 8 #[.agg #[.int .u32 (L : Nat), .int .u32 (M : Nat), .int .u64 (T : Nat), .slice a n c]] w fun e w' => e = .returned (.int .i64 R) ∧ Below w.heap.size w w' := by
  have HN := Lib.hid hn
  clear hn
  cases hk : chkP T n with
  | false =>
    obtain rfl : R = -1 := by rw [← hR, pendP, if_neg (by rw [hk]; decide)]
    have HK := Lib.hid hk
    clear hk hR
    go_enter Try.func8, Try.ntmps8
    go_wp2_with fail
    refine (check_any _ _ _ _ _ _ HN.out _ HK.out _).mono ?_
    rintro e w1 ⟨rfl, hb⟩
    have HB := Lib.hid (((Below.refl w.heap.size w).alloc (Nat.le_refl _) (.cells #[.int .u32 (L : Nat), .int .u32 (M : Nat), .int .u64 (T : Nat), .slice a n c] 26)).trans (hb.mono (by simp)))
    clear hb
    go_wp2
    go_ret
    exact ⟨rfl, HB.out⟩
  | true =>
    obtain ⟨x, hx⟩ : ∃ x, x = L &&& M := ⟨_, rfl⟩
    have hxl : x < 4294967296 := by rw [hx]; exact Nat.lt_of_le_of_lt Nat.and_le_left hL
    have hand : bits BinOp.and IntKind.u32 (L : Int) (M : Int) = (x : Int) := by rw [hx]; exact u32_and_nat L M hL hM
    have HR := Lib.hid (show pendN x 0 32 = R by rw [← hR, pendP, if_pos hk, hx])
    have HK := Lib.hid hk
    clear hk hR hx
    go_enter Try.func8, Try.ntmps8
    go_wp2_with fail
    refine (check_any _ _ _ _ _ _ HN.out _ HK.out _).mono ?_
    rintro e w1 ⟨rfl, hb⟩
    obtain ⟨c0, c1, c2, c3⟩ := four (box_row hb)
    have HB := Lib.hid (((Below.refl w.heap.size w).alloc (Nat.le_refl _) (.cells #[.int .u32 (L : Nat), .int .u32 (M : Nat), .int .u64 (T : Nat), .slice a n c] 26)).trans (hb.mono (by simp)))
    clear hb
    go_wp2
    clear hand c0 c1 c2 c3
    go_loop [4] (fun v => ∃ i : Nat, i ≤ 32 ∧ pendN x i (32 - i) = R ∧ v = .int .i64 i) (fun v => 32 - (intOf v).toNat)
    case atStart => exact ⟨0, by omega, HR.out, rfl⟩
    case round =>
      obtain ⟨i, hi, hp, rfl⟩ := hrel
      have HP := Lib.hid hp
      clear hp
      by_cases hlt : i < 32
      · obtain ⟨b, hbk⟩ : ∃ b, b = 2 ^ i := ⟨_, rfl⟩
        have hbl : b < 4294967296 := by rw [hbk]; exact pow_lt32 (by omega)
        have hab := u32_and_nat x b hxl hbl
        have HBK := Lib.hid hbk
        clear hbk
        cases ht : x.testBit i with
        | true =>
          have hne : ((x &&& b : Nat) : Int) ≠ 0 := fun h => by
            have h2 : x &&& 2 ^ i = 0 := by rw [← HBK.out]; exact Int.ofNat_eq_zero.1 h
            rw [bit_at, ht] at h2
            cases h2
          obtain ⟨y, hy⟩ : ∃ y, y = x &&& b := ⟨_, rfl⟩
          rw [← hy] at hab hne
          have HI := Lib.hid (pend_hit hlt HP.out ht)
          clear ht hy
          go_wp2_with fail
          refine (bitOf_any i (by omega) b HBK.out _).mono ?_
          rintro e w2 ⟨rfl, rfl⟩
          go_wp2
          go_ret
          exact ⟨by rw [HI.out]; rfl, HB.out⟩
        | false =>
          have hz : x &&& b = 0 := by rw [HBK.out]; exact bit_at.2 ht
          rw [hz] at hab
          have HI := Lib.hid (pend_step hlt HP.out ht)
          clear ht hz
          go_wp2_with fail
          refine (bitOf_any i (by omega) b HBK.out _).mono ?_
          rintro e w2 ⟨rfl, rfl⟩
          go_wp2
          go_round
          case rel => exact ⟨i + 1, by omega, HI.out, by go_num⟩
          case measure => simp [intOf]; omega
      · obtain rfl : i = 32 := by omega
        have HI := Lib.hid (show R = -1 by rw [← HP.out]; rfl)
        go_wp2
        go_ret
        exact ⟨by rw [HI.out]; rfl, HB.out⟩

theorem half_cast (x i : Nat) : (((x / 2 ^ i : Nat) : Int) / 2) = ((x / 2 ^ (i + 1) : Nat) : Int) := by
  rw [Nat.pow_succ, ← Nat.div_div_eq_div_mul, Int.natCast_ediv]
  rfl
set_option maxHeartbeats 4000000 in
set_option maxRecDepth 100000 in
theorem refPending_any (L M T : Nat) (hL : L < 4294967296) (hM : M < 4294967296) (a : Option Addr) (n c : Nat) (hn : n ≤ maxLen) (R : Int) (hR : pendP L M T n = R) (w : World) :
    Calls Try.prog 23 #[.agg #[.int .u32 (L : Nat), .int .u32 (M : Nat), .int .u64 (T : Nat), .slice a n c]] w fun e w' => e = .returned (.int .i64 R) ∧ Below w.heap.size w w' := by
  have HN := Lib.hid hn
  clear hn
  cases hk : chkP T n with
  | false =>
    obtain rfl : R = -1 := by rw [← hR, pendP, if_neg (by rw [hk]; decide)]
    have HK := Lib.hid hk
    clear hk hR
    go_enter Try.func23, Try.ntmps23
    go_wp2_with fail
    refine (refCheck_any _ _ _ _ _ _ HN.out _ HK.out _).mono ?_
    rintro e w1 ⟨rfl, hb⟩
    have HB := Lib.hid (((Below.refl w.heap.size w).alloc (Nat.le_refl _) (.cells #[.int .u32 (L : Nat), .int .u32 (M : Nat), .int .u64 (T : Nat), .slice a n c] 26)).trans (hb.mono (by simp)))
    clear hb
    go_wp2
    go_ret
    exact ⟨rfl, HB.out⟩
  | true =>
    obtain ⟨x, hx⟩ : ∃ x, x = L &&& M := ⟨_, rfl⟩
    have hxl : x < 4294967296 := by rw [hx]; exact Nat.lt_of_le_of_lt Nat.and_le_left hL
    have hand : bits BinOp.and IntKind.u32 (L : Int) (M : Int) = (x : Int) := by rw [hx]; exact u32_and_nat L M hL hM
    have HR := Lib.hid (show pendN x 0 32 = R by rw [← hR, pendP, if_pos hk, hx])
    have HK := Lib.hid hk
    clear hk hR hx
    go_enter Try.func23, Try.ntmps23
    go_wp2_with fail
    refine (refCheck_any _ _ _ _ _ _ HN.out _ HK.out _).mono ?_
    rintro e w1 ⟨rfl, hb⟩
    obtain ⟨c0, c1, c2, c3⟩ := four (box_row hb)
    have HB := Lib.hid (((Below.refl w.heap.size w).alloc (Nat.le_refl _) (.cells #[.int .u32 (L : Nat), .int .u32 (M : Nat), .int .u64 (T : Nat), .slice a n c] 26)).trans (hb.mono (by simp)))
    clear hb
    go_wp2
    clear hand c0 c1 c2 c3
    go_loop [3, 4] (fun u v => ∃ i : Nat, i ≤ 32 ∧ pendN x i (32 - i) = R ∧ u = .int .u32 ((x / 2 ^ i : Nat) : Int) ∧ v = .int .i64 i) (fun _ v => 32 - (intOf v).toNat)
    case atStart => exact ⟨0, by omega, HR.out, by rw [Nat.pow_zero, Nat.div_one], rfl⟩
    case round =>
      obtain ⟨i, hi, hp, rfl, rfl⟩ := hrel
      have HP := Lib.hid hp
      clear hp
      by_cases hlt : i < 32
      · obtain ⟨y, hy⟩ : ∃ y, y = x / 2 ^ i := ⟨_, rfl⟩
        have hyl : y < 4294967296 := by rw [hy]; exact Nat.lt_of_le_of_lt (Nat.div_le_self _ _) hxl
        have HY := Lib.hid hy
        have HC := Lib.hid (half_cast x i)
        rw [← hy] at HC ⊢
        clear hy
        cases ht : x.testBit i with
        | true =>
          have ho : y % 2 = 1 := by rw [HY.out]; exact (half_bit x i).2 ht
          have ho1 : ((y : Int) % 2 == 1) = true := by rw [beq_iff_eq]; omega
          have HI := Lib.hid (pend_hit hlt HP.out ht)
          clear ht ho
          go_wp2
          go_ret
          exact ⟨by rw [HI.out]; rfl, HB.out⟩
        | false =>
          have ho : ¬ y % 2 = 1 := by rw [HY.out, half_bit x i, ht]; decide
          have ho1 : ((y : Int) % 2 == 1) = false := by rw [beq_eq_false_iff_ne]; omega
          have HI := Lib.hid (pend_step hlt HP.out ht)
          clear ht ho
          go_wp2
          go_round
          case rel => exact ⟨i + 1, by omega, HI.out, by rw [← HC.out], by go_num⟩
          case measure => simp [intOf]; omega
      · obtain rfl : i = 32 := by omega
        have HI := Lib.hid (show R = -1 by rw [← HP.out]; rfl)
        go_wp2
        go_ret
        exact ⟨by rw [HI.out]; rfl, HB.out⟩
end Go.Proofs.Ytpnfikbpcpdgiaa
