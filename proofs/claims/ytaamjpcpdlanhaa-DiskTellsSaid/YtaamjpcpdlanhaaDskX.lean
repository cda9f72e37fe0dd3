/- What the document's own Read, kept, Flush and Crash answer. -/
import Derived.Test.YtaamjpcpdlanhaaDskB
import Derived.Test.YtaamjpcpdlanhaaDskV
import Derived.Test.YtaamjpcpdlanhaaAppH
namespace Go.Proofs.Ytaamjpcpdlanhaa
open Go.RowKit Go.Lib

theorem after_hit (S : List (List UInt8)) (C : List (Int × List UInt8)) (T : Nat → Bool) (k i : Nat) (hT : T k = true) (hz : (C.getD k (0, [])).1 = (i : Int)) (hi : i < S.length) : (after S C T (k + 1)).getD i [] = (C.getD k (0, [])).2 := by
  have ha : after S C T (k + 1) = (after S C T k).set (C.getD k (0, [])).1.toNat (C.getD k (0, [])).2 := by
    show (if T k = true then _ else _) = _
    rw [if_pos hT]
  rw [ha, hz, Int.toNat_natCast, List.getD_eq_getElem?_getD, List.getElem?_set_self (by rw [after_length]; exact hi)]
  rfl
theorem after_miss (S : List (List UInt8)) (C : List (Int × List UInt8)) (T : Nat → Bool) (k i : Nat) (h0 : 0 ≤ (C.getD k (0, [])).1) (hz : (C.getD k (0, [])).1 ≠ (i : Int)) : (after S C T (k + 1)).getD i [] = (after S C T k).getD i [] := by
  show (if T k = true then (after S C T k).set (C.getD k (0, [])).1.toNat (C.getD k (0, [])).2 else after S C T k).getD i [] = _
  split
  · rw [List.getD_eq_getElem?_getD, List.getElem?_set_ne (by omega), List.getD_eq_getElem?_getD]
  · rfl

set_option maxHeartbeats 4000000 in
set_option maxRecDepth 100000 in
theorem refRead_any (s c : Value) (S : List (List UInt8)) (C : List (Int × List UInt8)) (w : World) (hd : IsDisk w s c S C) (z : Int) (F : Int) (hF : dFault S C z = F) (L : List UInt8) (hL : (if dFault S C z = 0 then (settledOf S C every).getD z.toNat [] else []) = L) :
    Calls Try.prog 14 #[.agg #[s, c], .int .i64 z] w fun e w' => ∃ a n c, e = .returned (.tuple #[.slice a n c, .int .i64 F]) ∧ IsArg w' (.slice a n c) L ∧ n = L.length ∧ Below w.heap.size w w' := by
  have HD := Lib.hid hd
  obtain ⟨a, ca, a1, c1, rfl, rfl, _, _⟩ := hd.shape
  obtain ⟨n, hSn⟩ : ∃ n, n = S.length := ⟨_, rfl⟩
  obtain ⟨m, hCm⟩ : ∃ m, m = C.length := ⟨_, rfl⟩
  rw [← hSn, ← hCm] at HD
  rw [← hSn, ← hCm]
  have HSn := Lib.hid hSn
  have HCm := Lib.hid hCm
  have HB0 := Lib.hid ((Below.refl w.heap.size w).alloc (Nat.le_refl _) (.cells #[.slice a n ca, .slice a1 m c1] 25))
  rcases dFault_cases S C z with ⟨hf, hk⟩ | ⟨hf, hk, hz⟩ | ⟨hf, hk, z0, z1⟩
  · obtain rfl : F = 3 := by rw [← hF, hf]
    obtain rfl : L = [] := by rw [← hL, if_neg (by rw [hf]; decide)]
    have HK := Lib.hid hk
    clear hd hF hL hSn hCm hf hk
    go_enter Try.func14, Try.ntmps14
    go_wp2_with fail
    refine (refCheck_any _ _ _ _ _ (HD.out.below HB0.out) _ HK.out).mono ?_
    rintro e w1 ⟨rfl, hb⟩
    have HB1 := Lib.hid (HB0.out.trans (hb.mono (by simp)))
    clear hb
    go_wp2
    go_ret2
    exact ⟨_, _, _, rfl, isArg_nil _, rfl, HB1.out⟩
  · obtain rfl : F = 50 := by rw [← hF, hf]
    obtain rfl : L = [] := by rw [← hL, if_neg (by rw [hf]; decide)]
    have HK := Lib.hid hk
    have HH := Lib.hid (show false = decide (0 ≤ z ∧ z < (n : Int)) from (decide_eq_false (by rw [hSn]; exact hz)).symm)
    clear hd hF hL hSn hCm hf hk hz
    go_enter Try.func14, Try.ntmps14
    go_wp2_with fail
    refine (refCheck_any _ _ _ _ _ (HD.out.below HB0.out) _ HK.out).mono ?_
    rintro e w1 ⟨rfl, hb⟩
    obtain ⟨hx1, hx2⟩ := box2 hb
    have HB1 := Lib.hid (HB0.out.trans (hb.mono (by simp)))
    clear hb
    go_wp2_with fail
    refine (refHas_any _ _ _ _ _ _ _ _ HH.out _).mono ?_
    rintro e w2 ⟨rfl, hb⟩
    have HB2 := Lib.hid (HB1.out.trans (hb.mono HB1.out.size))
    clear hb hx1 hx2
    go_wp2
    go_ret2
    exact ⟨_, _, _, rfl, isArg_nil _, rfl, HB2.out⟩
  · obtain rfl : F = 0 := by rw [← hF, hf]
    obtain ⟨i, rfl⟩ := Int.eq_ofNat_of_zero_le z0
    rw [if_pos hf, Int.toNat_natCast] at hL
    obtain ⟨s1, s2, s3⟩ := Inside.of hk
    have hin : i < n := by omega
    rw [← hSn] at s1
    rw [← hCm] at s2
    have HK := Lib.hid hk
    have HS3 := Lib.hid s3
    have HL := Lib.hid hL
    have HI := Lib.hid (show i < S.length by omega)
    have HH := Lib.hid (show true = decide (0 ≤ (i : Int) ∧ (i : Int) < (n : Int)) from (decide_eq_true (by omega)).symm)
    clear hd hF hL hSn hCm hf hk z0 z1 s3
    go_enter Try.func14, Try.ntmps14
    go_wp2_with fail
    refine (refCheck_any _ _ _ _ _ (HD.out.below HB0.out) _ HK.out).mono ?_
    rintro e w1 ⟨rfl, hb⟩
    have hX1 := box2 hb
    have HX1 := Lib.hid hX1
    obtain ⟨hx1, hx2⟩ := hX1
    have HB1 := Lib.hid (HB0.out.trans (hb.mono (by simp)))
    clear hb
    go_wp2_with fail
    refine (refHas_any _ _ _ _ _ _ _ _ HH.out _).mono ?_
    rintro e w2 ⟨rfl, hb⟩
    have HB2 := Lib.hid (HB1.out.trans (hb.mono HB1.out.size))
    clear hx1 hx2
    obtain ⟨hx1, hx2⟩ := kept2 HX1.out hb
    obtain ⟨b, off, va, vn, vc, rfl, hcl, hvn, hva⟩ := sect_shape (HD.out.below HB2.out).1 i HI.out
    have HVA := Lib.hid hva
    clear hb hvn hva
    go_wp2
    go_loop [6, 7] (fun x y => ∃ k : Nat, k ≤ m ∧ y = .int .i64 k ∧ ∃ va vn vc, x = .slice va vn vc ∧ IsArg w2 (.slice va vn vc) ((after S C every k).getD i [])) (fun _ y => m - (intOf y).toNat)
    case atStart => exact ⟨0, Nat.zero_le _, rfl, va, vn, vc, rfl, HVA.out⟩
    case round =>
      obtain ⟨k, hk, rfl, ua, un, uc, rfl, hua⟩ := hrel
      have HUA := Lib.hid hua
      clear hua
      by_cases hlt : k < m
      · obtain ⟨b2, off2, y, wa, wn, wc, rfl, hcl1, hcl2, hy, hwn, hwa⟩ := write_shape (HD.out.below HB2.out).2 k (by rw [← HCm.out]; exact hlt)
        have HY := Lib.hid hy
        have HWA := Lib.hid hwa
        clear hwn hwa hy
        by_cases he : y = (i : Int)
        · subst he
          go_wp2
          go_round
          case rel => exact ⟨k + 1, by omega, by go_num, wa, wn, wc, rfl, by rw [after_hit S C every k i rfl HY.out.symm HI.out]; exact HWA.out⟩
          case measure => simp [intOf]; omega
        · have HE := Lib.hid he
          go_wp2
          go_round
          case rel =>
            refine ⟨k + 1, by omega, by go_num, ua, un, uc, rfl, ?_⟩
            rw [after_miss S C every k i (HS3.out _ (getD_mem C k (0, []) (by rw [← HCm.out]; exact hlt))).1 (by rw [← HY.out]; exact HE.out)]
            exact HUA.out
          case measure => simp [intOf]; omega
      · obtain rfl : k = m := by omega
        go_wp2
        go_ret2
        have h := HUA.out
        have h2 : (after S C every k).getD i [] = L := by rw [HCm.out]; exact HL.out
        rw [h2] at h
        obtain ⟨_, _, _, h3, h4⟩ := h.shape3
        cases h3
        exact ⟨_, _, _, rfl, h, h4, HB2.out⟩
end Go.Proofs.Ytaamjpcpdlanhaa
