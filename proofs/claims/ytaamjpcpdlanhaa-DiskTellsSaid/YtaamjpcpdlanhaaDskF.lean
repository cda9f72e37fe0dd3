/- What the document's own Few answers. -/
import Derived.Test.YtaamjpcpdlanhaaDskA
namespace Go.Proofs.Ytaamjpcpdlanhaa
open Go.RowKit Go.Lib

def fewB (S : List (List UInt8)) (C : List (Int × List UInt8)) : Bool :=
  decide (S.length ≤ 300) && decide (C.length ≤ 600) && S.all (fun l => decide (l.length ≤ 600)) && C.all (fun x => decide (x.2.length ≤ 600))
theorem few_true {S : List (List UInt8)} {C : List (Int × List UInt8)} : fewB S C = true ↔ S.length ≤ 300 ∧ C.length ≤ 600 ∧ (∀ l ∈ S, l.length ≤ 600) ∧ ∀ x ∈ C, x.2.length ≤ 600 := by
  simp only [fewB, Bool.and_eq_true, decide_eq_true_eq, List.all_eq_true, and_assoc]
theorem few_false {S : List (List UInt8)} {C : List (Int × List UInt8)} (h : ¬ (S.length ≤ 300 ∧ C.length ≤ 600 ∧ (∀ l ∈ S, l.length ≤ 600) ∧ ∀ x ∈ C, x.2.length ≤ 600)) : fewB S C = false := by
  rw [← Bool.not_eq_true, few_true]
  exact h

set_option maxHeartbeats 4000000 in
theorem few_any (s c : Value) (S : List (List UInt8)) (C : List (Int × List UInt8)) (w : World) (hd : IsDisk w s c S C) (r : Bool) (hr : fewB S C = r) :
    Calls Try.prog 7 #[.agg #[s, c]] w fun e w' => e = .returned (.bool r) ∧ Below w.heap.size w w' := by
  obtain ⟨a, ca, rfl, hn⟩ := hd.1.shape
  obtain ⟨a1, c1, rfl, hm⟩ := hd.2.shape
  have HD := Lib.hid hd
  have HR := Lib.hid hr
  unfold maxLen at hn hm
  clear hd hr
  by_cases h1 : S.length ≤ 300
  · by_cases h2 : C.length ≤ 600
    · have d1 : decide ((300 : Int) < (S.length : Nat)) = false := decide_eq_false (by omega)
      have d2 : decide ((600 : Int) < (C.length : Nat)) = false := decide_eq_false (by omega)
      obtain ⟨W0, hW0⟩ : ∃ W, W = w.alloc (.cells #[.slice a S.length ca, .slice a1 C.length c1] 25) := ⟨_, rfl⟩
      have HB0 := Lib.hid (show Below w.heap.size w W0 by rw [hW0]; exact (Below.refl _ _).alloc (Nat.le_refl _) _)
      have HX := Lib.hid (show W0.cell? ⟨w.heap.size, 0, none⟩ = some (.slice a S.length ca) ∧ W0.cell? ⟨w.heap.size, 1, none⟩ = some (.slice a1 C.length c1) by rw [hW0]; exact box2_new _ _ _ _ _)
      have HW := Lib.hid hW0
      obtain ⟨n, hSn⟩ : ∃ n, n = S.length := ⟨_, rfl⟩
      obtain ⟨m, hCm⟩ : ∃ m, m = C.length := ⟨_, rfl⟩
      rw [← hSn] at h1 d1
      rw [← hCm] at h2 d2
      rw [← hSn, ← hCm] at HX HW HD
      rw [← hSn, ← hCm]
      have HSn := Lib.hid hSn
      have HCm := Lib.hid hCm
      clear hW0 hSn hCm hn hm
      obtain ⟨hx1, hx2⟩ := HX.out
      go_enter Try.func7, Try.ntmps7
      go_wp2
      rw [← HW.out]
      go_loop [3] (fun i => ∃ k : Nat, k ≤ n ∧ i = .int .i64 k ∧ ∀ l ∈ S.take k, l.length ≤ 600) (fun i => n - (intOf i).toNat)
      case atStart => exact ⟨0, Nat.zero_le _, rfl, fun l hl => by simp at hl⟩
      case round =>
        obtain ⟨k, hk, rfl, hall⟩ := hrel
        have HA := Lib.hid hall
        clear hall
        by_cases hlt : k < n
        · obtain ⟨b, off, va, vn, vc, rfl, hcl, hvn, _⟩ := sect_shape (HD.out.below HB0.out).1 k (by rw [← HSn.out]; exact hlt)
          have HV := Lib.hid hvn
          clear hvn
          by_cases h5 : vn ≤ 600
          · go_wp2
            go_round
            case rel => exact ⟨k + 1, by omega, by go_num, all_take (p := fun l => l.length ≤ 600) S k [] (by rw [← HSn.out]; exact hlt) HA.out (by rw [← HV.out]; exact h5)⟩
            case measure => simp [intOf]; omega
          · obtain rfl : r = false := by
              rw [← HR.out]
              refine few_false fun h => h5 ?_
              rw [HV.out]
              exact h.2.2.1 _ (getD_mem S k [] (by rw [← HSn.out]; exact hlt))
            go_wp2
            go_ret
            exact ⟨rfl, HB0.out⟩
        · obtain rfl : k = n := by omega
          have HS := Lib.hid (show ∀ l ∈ S, l.length ≤ 600 by have h := HA.out; rw [HSn.out, List.take_length] at h; exact h)
          clear HA
          go_wp2
          go_loop [4] (fun i => ∃ j : Nat, j ≤ m ∧ i = .int .i64 j ∧ ∀ x ∈ C.take j, x.2.length ≤ 600) (fun i => m - (intOf i).toNat)
          case atStart => exact ⟨0, Nat.zero_le _, rfl, fun l hl => by simp at hl⟩
          case round =>
            obtain ⟨j, hj, rfl, hall⟩ := hrel
            have HA := Lib.hid hall
            clear hall
            by_cases hlt : j < m
            · obtain ⟨b, off, z, va, vn, vc, rfl, hcl1, hcl2, _, hvn, _⟩ := write_shape (HD.out.below HB0.out).2 j (by rw [← HCm.out]; exact hlt)
              have HV := Lib.hid hvn
              clear hvn
              by_cases h5 : vn ≤ 600
              · go_wp2
                go_round
                case rel => exact ⟨j + 1, by omega, by go_num, all_take (p := fun x => x.2.length ≤ 600) C j (0, []) (by rw [← HCm.out]; exact hlt) HA.out (by rw [← HV.out]; exact h5)⟩
                case measure => simp [intOf]; omega
              · obtain rfl : r = false := by
                  rw [← HR.out]
                  refine few_false fun h => h5 ?_
                  rw [HV.out]
                  exact h.2.2.2 _ (getD_mem C j (0, []) (by rw [← HCm.out]; exact hlt))
                go_wp2
                go_ret
                exact ⟨rfl, HB0.out⟩
            · obtain rfl : j = m := by omega
              obtain rfl : r = true := by
                rw [← HR.out]
                have h := HA.out
                rw [HCm.out, List.take_length] at h
                exact few_true.2 ⟨by rw [← HSn.out]; exact h1, by rw [← HCm.out]; exact h2, HS.out, h⟩
              go_wp2
              go_ret
              exact ⟨rfl, HB0.out⟩
    · obtain rfl : r = false := by rw [← HR.out]; exact few_false (fun h => h2 h.2.1)
      go_enter Try.func7, Try.ntmps7
      go_wp2
      go_ret
      exact ⟨rfl, (Below.refl _ _).alloc (Nat.le_refl _) _⟩
  · obtain rfl : r = false := by rw [← HR.out]; exact few_false (fun h => h1 h.1)
    go_enter Try.func7, Try.ntmps7
    go_wp2
    go_ret
    exact ⟨rfl, (Below.refl _ _).alloc (Nat.le_refl _) _⟩
end Go.Proofs.Ytaamjpcpdlanhaa
