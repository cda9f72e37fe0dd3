/- What fault, writeFault and tamperFault answer. -/
import Derived.Test.YtaamjpcpdlanhaaDskA
namespace Go.Proofs.Ytaamjpcpdlanhaa
open Go.RowKit Go.Lib

theorem IsDisk.shape {w : World} {s c : Value} {S : List (List UInt8)} {C : List (Int × List UInt8)} (h : IsDisk w s c S C) : ∃ a ca a1 c1, s = .slice a S.length ca ∧ c = .slice a1 C.length c1 ∧ S.length ≤ maxLen ∧ C.length ≤ maxLen := by
  obtain ⟨a, ca, h1, h2⟩ := h.1.shape
  obtain ⟨a1, c1, h3, h4⟩ := h.2.shape
  exact ⟨a, ca, a1, c1, h1, h3, h2, h4⟩

set_option maxHeartbeats 1000000 in
theorem fault_any (s c : Value) (S : List (List UInt8)) (C : List (Int × List UInt8)) (w : World) (hd : IsDisk w s c S C) (z : Int) (F : Int) (hF : dFault S C z = F) :
    Calls Try.prog 31 #[.agg #[s, c], .int .i64 z] w fun e w' => e = .returned (.int .i64 F) ∧ Below w.heap.size w w' := by
  have HD := Lib.hid hd
  obtain ⟨a, ca, a1, c1, rfl, rfl, _, _⟩ := hd.shape
  have HB0 := Lib.hid ((Below.refl w.heap.size w).alloc (Nat.le_refl _) (.cells #[.slice a S.length ca, .slice a1 C.length c1] 25))
  clear hd
  rcases dFault_cases S C z with ⟨hf, h1⟩ | ⟨hf, h1, h2⟩ | ⟨hf, h1, h2⟩
  · obtain rfl : F = 3 := by rw [← hF, hf]
    have HC := Lib.hid h1
    clear hF hf h1
    go_enter Try.func31, Try.ntmps31
    go_wp2_with fail
    refine (check_any _ _ _ _ _ (HD.out.below HB0.out) _ HC.out).mono ?_
    rintro e w1 ⟨rfl, hb⟩
    go_wp2
    go_ret
    exact ⟨rfl, HB0.out.trans (hb.mono (by simp))⟩
  · obtain rfl : F = 50 := by rw [← hF, hf]
    have HC := Lib.hid h1
    have HB := Lib.hid (show false = decide (0 ≤ z ∧ z < (S.length : Int)) from (decide_eq_false h2).symm)
    clear hF hf h1 h2
    go_enter Try.func31, Try.ntmps31
    go_wp2_with fail
    refine (check_any _ _ _ _ _ (HD.out.below HB0.out) _ HC.out).mono ?_
    rintro e w1 ⟨rfl, hb⟩
    obtain ⟨hx1, hx2⟩ := box2 hb
    go_wp2_with fail
    refine (has_any _ _ _ _ _ _ _ _ HB.out _).mono ?_
    rintro e w2 ⟨rfl, hb2⟩
    clear hx1 hx2
    go_wp2
    go_ret
    exact ⟨rfl, HB0.out.trans ((hb.trans (hb2.mono hb.size)).mono (by simp))⟩
  · obtain rfl : F = 0 := by rw [← hF, hf]
    have HC := Lib.hid h1
    have HB := Lib.hid (show true = decide (0 ≤ z ∧ z < (S.length : Int)) from (decide_eq_true h2).symm)
    clear hF hf h1 h2
    go_enter Try.func31, Try.ntmps31
    go_wp2_with fail
    refine (check_any _ _ _ _ _ (HD.out.below HB0.out) _ HC.out).mono ?_
    rintro e w1 ⟨rfl, hb⟩
    obtain ⟨hx1, hx2⟩ := box2 hb
    go_wp2_with fail
    refine (has_any _ _ _ _ _ _ _ _ HB.out _).mono ?_
    rintro e w2 ⟨rfl, hb2⟩
    clear hx1 hx2
    go_wp2
    go_ret
    exact ⟨rfl, HB0.out.trans ((hb.trans (hb2.mono hb.size)).mono (by simp))⟩

set_option maxHeartbeats 2000000 in
theorem writeFault_any (s c : Value) (S : List (List UInt8)) (C : List (Int × List UInt8)) (w : World) (hd : IsDisk w s c S C) (z : Int) (ua : Option Addr) (n uc : Nat) (F : Int) (hF : wFault S C z n = F) :
    Calls Try.prog 35 #[.agg #[s, c], .int .i64 z, .slice ua n uc] w fun e w' => e = .returned (.int .i64 F) ∧ Below w.heap.size w w' := by
  have HD := Lib.hid hd
  obtain ⟨a, ca, a1, c1, rfl, rfl, _, hm⟩ := hd.shape
  unfold maxLen at hm
  have HB0 := Lib.hid ((Below.refl w.heap.size w).alloc (Nat.le_refl _) (.cells #[.slice a S.length ca, .slice a1 C.length c1] 25))
  obtain ⟨f, hf⟩ : ∃ f, dFault S C z = f := ⟨_, rfl⟩
  have HF := Lib.hid hf
  unfold wFault at hF
  rw [hf] at hF
  clear hd hf
  by_cases h0 : f = 0
  · subst h0
    rw [if_pos rfl] at hF
    by_cases h1 : n = 256
    · rw [if_pos h1] at hF
      subst h1
      by_cases h2 : C.length = 512
      · rw [if_pos h2] at hF
        subst hF
        have h3 : ((C.length : Int) = 512) := by omega
        clear h2
        go_enter Try.func35, Try.ntmps35
        go_wp2_with fail
        refine (fault_any _ _ _ _ _ (HD.out.below HB0.out) _ _ HF.out).mono ?_
        rintro e w1 ⟨rfl, hb⟩
        obtain ⟨hx1, hx2⟩ := box2 hb
        go_wp2
        go_ret
        exact ⟨rfl, HB0.out.trans (hb.mono (by simp))⟩
      · rw [if_neg h2] at hF
        subst hF
        have h3 : ¬ ((C.length : Int) = 512) := by omega
        clear h2
        go_enter Try.func35, Try.ntmps35
        go_wp2_with fail
        refine (fault_any _ _ _ _ _ (HD.out.below HB0.out) _ _ HF.out).mono ?_
        rintro e w1 ⟨rfl, hb⟩
        obtain ⟨hx1, hx2⟩ := box2 hb
        go_wp2
        go_ret
        exact ⟨rfl, HB0.out.trans (hb.mono (by simp))⟩
    · rw [if_neg h1] at hF
      subst hF
      have h3 : ¬ ((n : Int) = 256) := by omega
      clear h1
      go_enter Try.func35, Try.ntmps35
      go_wp2_with fail
      refine (fault_any _ _ _ _ _ (HD.out.below HB0.out) _ _ HF.out).mono ?_
      rintro e w1 ⟨rfl, hb⟩
      go_wp2
      go_ret
      exact ⟨rfl, HB0.out.trans (hb.mono (by simp))⟩
  · rw [if_neg h0] at hF
    subst hF
    go_enter Try.func35, Try.ntmps35
    go_wp2_with fail
    refine (fault_any _ _ _ _ _ (HD.out.below HB0.out) _ _ HF.out).mono ?_
    rintro e w1 ⟨rfl, hb⟩
    go_wp2
    go_ret
    exact ⟨rfl, HB0.out.trans (hb.mono (by simp))⟩

set_option maxHeartbeats 2000000 in
theorem tamperFault_any (s c : Value) (S : List (List UInt8)) (C : List (Int × List UInt8)) (w : World) (hd : IsDisk w s c S C) (z p : Int) (F : Int) (hF : tFault S C z p = F) :
    Calls Try.prog 37 #[.agg #[s, c], .int .i64 z, .int .i64 p] w fun e w' => e = .returned (.int .i64 F) ∧ Below w.heap.size w w' := by
  have HD := Lib.hid hd
  obtain ⟨a, ca, a1, c1, rfl, rfl, _, _⟩ := hd.shape
  have HB0 := Lib.hid ((Below.refl w.heap.size w).alloc (Nat.le_refl _) (.cells #[.slice a S.length ca, .slice a1 C.length c1] 25))
  obtain ⟨f, hf⟩ : ∃ f, dFault S C z = f := ⟨_, rfl⟩
  have HF := Lib.hid hf
  unfold tFault at hF
  rw [hf] at hF
  clear hd hf
  by_cases h0 : f = 0
  · subst h0
    rw [if_pos rfl] at hF
    by_cases h1 : 0 ≤ p
    · by_cases h2 : p < 256
      · rw [if_pos ⟨h1, h2⟩] at hF
        subst hF
        go_enter Try.func37, Try.ntmps37
        go_wp2_with fail
        refine (fault_any _ _ _ _ _ (HD.out.below HB0.out) _ _ HF.out).mono ?_
        rintro e w1 ⟨rfl, hb⟩
        go_wp2
        go_ret
        exact ⟨rfl, HB0.out.trans (hb.mono (by simp))⟩
      · rw [if_neg (fun h => h2 h.2)] at hF
        subst hF
        go_enter Try.func37, Try.ntmps37
        go_wp2_with fail
        refine (fault_any _ _ _ _ _ (HD.out.below HB0.out) _ _ HF.out).mono ?_
        rintro e w1 ⟨rfl, hb⟩
        go_wp2
        go_ret
        exact ⟨rfl, HB0.out.trans (hb.mono (by simp))⟩
    · rw [if_neg (fun h => h1 h.1)] at hF
      subst hF
      go_enter Try.func37, Try.ntmps37
      go_wp2_with fail
      refine (fault_any _ _ _ _ _ (HD.out.below HB0.out) _ _ HF.out).mono ?_
      rintro e w1 ⟨rfl, hb⟩
      go_wp2
      go_ret
      exact ⟨rfl, HB0.out.trans (hb.mono (by simp))⟩
  · rw [if_neg h0] at hF
    subst hF
    go_enter Try.func37, Try.ntmps37
    go_wp2_with fail
    refine (fault_any _ _ _ _ _ (HD.out.below HB0.out) _ _ HF.out).mono ?_
    rintro e w1 ⟨rfl, hb⟩
    go_wp2
    go_ret
    exact ⟨rfl, HB0.out.trans (hb.mono (by simp))⟩
end Go.Proofs.Ytaamjpcpdlanhaa
