/- The law NumBack returns true for every input, where the listed variables of strconv hold what their initialisers lay. -/
import Derived.Test.YtddimcicajlbgaaDoorNumO
import Derived.Deep.RegionHeld3
namespace Go.Proofs.YtddimcicajlbgaaDoor
open Go.RowKit Go.Lib

theorem leN_leB (n k : Nat) : leN (leB n k) = n % 256 ^ k := by
  induction k with
  | zero => simp [leB, leN, Nat.mod_one]
  | succ k ih =>
    rw [leB_succ, leN_snoc, ih, leB_length]
    have h1 : (UInt8.ofNat (n / 256 ^ k)).toNat = n / 256 ^ k % 256 := by simp
    rw [h1, Nat.pow_succ, Nat.mod_mul, Nat.mul_comm]
theorem back_le (n k : Nat) (hk : k ≤ 8) : leN ((leB n k).take 8) = n % 256 ^ k := by rw [List.take_of_length_le (by simpa using hk), leN_leB]
theorem back_be (n k : Nat) (hk : k ≤ 8) : beN ((beB n k).take 8) = n % 256 ^ k := by
  rw [List.take_of_length_le (by simpa using hk)]; unfold beN beB; rw [List.reverse_reverse, leN_leB]

theorem itoa_size (z : Int) (hz : I64 z) : (⟨(Lib.itoa z).toArray⟩ : ByteArray).size ≤ 281474976710656 := by
  have := Lib.itoa_length_le z hz.1 hz.2
  simp only [ByteArray.size, List.size_toArray]
  omega

set_option maxHeartbeats 2000000 in
theorem numBack_in (n k : Nat) (hn : n < 18446744073709551616) (hk : k ≤ 8) (z : Int) (hz : I64 z) (w : World) (hL : Laid w) :
    Calls Tryd.prog 6 #[.int .u64 n, .int .i64 k, .int .i64 z] w fun e w' => e = .returned (.bool true) ∧ Below w.heap.size w w' := by
  have hm8 : IntKind.i64.wrap (8 * (k : Int)) = 8 * (k : Int) := IntWalk.i64_in _ (by omega)
  have hm9 : 0 ≤ 8 * (k : Int) := by omega
  go_enter Tryd.func6, Tryd.ntmps6
  go_upto_if 21 with fail
  go_cut [7] (fun x wx => x = .int .u64 ((n % 256 ^ k : Nat) : Int) ∧ wx = w)
  case first =>
    by_cases h8 : k = 8
    · subst h8
      go_wp2_with fail
      go_meet
      exact ⟨by rw [Nat.mod_eq_of_lt (by have : (256 : Nat) ^ 8 = 18446744073709551616 := rfl
                                         omega)], rfl⟩
    · have hk8 : (k : Int) < 8 := by omega
      obtain ⟨p, hp⟩ : ∃ p, p = 256 ^ k := ⟨_, rfl⟩
      have hp7 : p ≤ 72057594037927936 := by rw [hp]; exact Nat.le_trans (Nat.pow_le_pow_right (by decide) (show k ≤ 7 by omega)) (by decide)
      have hp0 : 0 < p := by rw [hp]; exact Nat.pow_pos (by decide)
      have hsh : IntKind.u64.wrap (2 ^ (8 * k)) = (p : Int) := by
        rw [show ((2 : Int) ^ (8 * k)) = ((256 ^ k : Nat) : Int) by rw [Int.pow_mul, Int.natCast_pow]; rfl, ← hp]
        exact IntWalk.u64_in _ (by omega)
      have hp1 : (0 : Int) < (p : Int) := by omega
      have hpe : ((p : Int) == 0) = false := by rw [beq_eq_false_iff_ne]; omega
      have Hp := Lib.hid hp
      clear hp
      go_wp2_with fail
      go_meet
      exact ⟨by rw [← Hp.out]; rfl, rfl⟩
  case rest =>
    obtain ⟨rfl, rfl⟩ := hcut
    obtain ⟨m, hm⟩ : ∃ m, m = n % 256 ^ k := ⟨_, rfl⟩
    rw [← hm]
    have Hm := Lib.hid hm
    clear hm
    go_wp2_with fail
    refine (le_row n k k (clamped_of k hk) _).mono ?_
    rintro e w1 ⟨g1, rfl, hr1, hg1, hb1⟩
    have hi1 := isBytes_all hr1 (leB_length n k) (by unfold maxLen; omega)
    clear hr1
    go_wp2_with fail
    refine (be_row n k k (clamped_of k hk) _).mono ?_
    rintro e w2 ⟨g2, rfl, hr2, hg2, hb2⟩
    have hi2 := isBytes_all hr2 (beB_length n k) (by unfold maxLen; omega)
    clear hr2
    have hi1' := hi1.below hb2
    have hL2 := (hL.below hb1).below hb2
    have HB2 := Lib.hid (hb1.trans (hb2.mono hb1.size))
    clear hi1 hb1 hb2 hL hg1 hg2
    go_wp2_with fail
    refine (dec_any z hz _ hL2).mono ?_
    rintro e w3 ⟨rfl, hb3⟩
    have hL3 := hL2.below hb3
    have hi1 := hi1'.below hb3
    have hi2' := hi2.below hb3
    have HB3 := Lib.hid (HB2.out.trans (hb3.mono HB2.out.size))
    clear hb3 hL2 HB2 hi1' hi2
    go_wp2_with fail
    refine (parse_any _ (itoa_size z hz) _ hL3).mono ?_
    rintro e w4 ⟨x, b, rfl, hp, hb4⟩
    obtain ⟨rfl, rfl⟩ := pr_unique hp (show PR (Lib.itoa z) z true from .inl ⟨rfl, rfl, hz⟩)
    have hL4 := hL3.below hb4
    have hi3 := hi1.below hb4
    have hi4 := hi2'.below hb4
    have HB4 := Lib.hid (HB3.out.trans (hb4.mono HB3.out.size))
    clear hb4 hL3 HB3 hi1 hi2' hp
    have hbl := back_le n k hk
    have hbb := back_be n k hk
    rw [← Hm.out] at hbl hbb
    have fl := fun W (h : IsBytes W (.slice (some ⟨g1, 0, none⟩) k k) (leB n k)) => fromLe_any _ _ W h
    have fb := fun W (h : IsBytes W (.slice (some ⟨g2, 0, none⟩) k k) (beB n k)) => fromBe_any _ _ W h
    simp only [hbl] at fl
    simp only [hbb] at fb
    have FL := Lib.hid fl
    have FB := Lib.hid fb
    clear fl fb hbl hbb
    go_wp2_with fail
    refine (FL.out _ hi3).mono ?_
    rintro e w5 ⟨rfl, hb5⟩
    have hL5 := hL4.below hb5
    have hi5 := hi4.below hb5
    have HB5 := Lib.hid (HB4.out.trans (hb5.mono HB4.out.size))
    clear hb5 hL4 HB4 hi3 hi4
    go_wp2_with fail
    refine (FB.out _ hi5).mono ?_
    rintro e w6 ⟨rfl, hb6⟩
    have hL6 := hL5.below hb6
    have HB6 := Lib.hid (HB5.out.trans (hb6.mono HB5.out.size))
    clear hb6 hL5 HB5 hi5
    go_wp2_with fail
    refine (heads_any _ hL6).mono ?_
    rintro e w7 ⟨rfl, hb7⟩
    go_wp2
    go_ret
    exact ⟨rfl, HB6.out.trans (hb7.mono HB6.out.size)⟩

theorem numBack_out (n : Nat) (z y : Int) (w : World) (hL : Laid w) (h : z < 0 ∨ 8 < z) :
    Calls Tryd.prog 6 #[.int .u64 n, .int .i64 z, .int .i64 y] w fun e w' => e = .returned (.bool true) ∧ Below w.heap.size w w' := by
  by_cases h1 : z < 0
  · go_enter Tryd.func6, Tryd.ntmps6
    go_wp2_with (go_at_call 8; refine (heads_any _ hL).mono ?_; rintro e w' ⟨rfl, hb⟩)
    go_ret
    exact ⟨rfl, hb⟩
  · have h2 : 8 < z := by omega
    go_enter Tryd.func6, Tryd.ntmps6
    go_wp2_with (go_at_call 8; refine (heads_any _ hL).mono ?_; rintro e w' ⟨rfl, hb⟩)
    go_ret
    exact ⟨rfl, hb⟩
theorem numBack_law (n : Nat) (hn : n < 18446744073709551616) (z : Int) (_hz : -9223372036854775808 ≤ z ∧ z ≤ 9223372036854775807) (y : Int) (hy : -9223372036854775808 ≤ y ∧ y ≤ 9223372036854775807) (w : World) (hL : Laid w) :
    Calls Tryd.prog 6 #[.int .u64 n, .int .i64 z, .int .i64 y] w fun e w' => e = .returned (.bool true) ∧ Below w.heap.size w w' := by
  by_cases h : z < 0 ∨ 8 < z
  · exact numBack_out n z y w hL h
  · obtain ⟨k, rfl⟩ := Int.eq_ofNat_of_zero_le (show 0 ≤ z by omega)
    exact numBack_in n k hn (by omega) y hy w hL
end Go.Proofs.YtddimcicajlbgaaDoor
