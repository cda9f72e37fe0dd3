/- What the document's own Same answers of two disks that are the same; what a sector full of a byte is. -/
import Derived.Test.YtaamjpcpdlanhaaDskS
namespace Go.Proofs.Ytaamjpcpdlanhaa
open Go.RowKit Go.Lib

set_option maxHeartbeats 4000000 in
set_option maxRecDepth 100000 in
theorem alike_any (s c s' c' : Value) (S : List (List UInt8)) (C : List (Int × List UInt8)) (w : World) (hd : IsDisk w s c S C) (he : IsDisk w s' c' S C) :
    Calls Try.prog 12 #[.agg #[s, c], .agg #[s', c']] w fun e w' => e = .returned (.bool true) ∧ Below w.heap.size w w' := by
  have HD := Lib.hid hd
  have HE := Lib.hid he
  obtain ⟨a, ca, a1, c1, rfl, rfl, hsm, hcm⟩ := hd.shape
  obtain ⟨a2, ca2, a3, c3, rfl, rfl, _, _⟩ := he.shape
  obtain ⟨n, hSn⟩ : ∃ n, n = S.length := ⟨_, rfl⟩
  obtain ⟨m, hCm⟩ : ∃ m, m = C.length := ⟨_, rfl⟩
  rw [← hSn] at hsm
  rw [← hCm] at hcm
  rw [← hSn, ← hCm] at HD HE
  rw [← hSn, ← hCm]
  unfold maxLen at hsm hcm
  have HSn := Lib.hid hSn
  have HCm := Lib.hid hCm
  obtain ⟨W0, hW0⟩ : ∃ W, W = (w.alloc (.cells #[.slice a n ca, .slice a1 m c1] 25)).alloc (.cells #[.slice a2 n ca2, .slice a3 m c3] 25) := ⟨_, rfl⟩
  have hB0 : Below w.heap.size w W0 := by rw [hW0]; exact ((Below.refl w.heap.size w).alloc (Nat.le_refl _) _).alloc (by simp) _
  have hX1 : W0.cell? ⟨w.heap.size, 0, none⟩ = some (.slice a n ca) ∧ W0.cell? ⟨w.heap.size, 1, none⟩ = some (.slice a1 m c1) := by
    rw [hW0]; exact kept2 (box2_new w (.slice a n ca) (.slice a1 m c1) 25 (0, 0)) ((Below.refl _ _).alloc (Nat.le_refl _) _)
  have hX2 : W0.cell? ⟨w.heap.size + 1, 0, none⟩ = some (.slice a2 n ca2) ∧ W0.cell? ⟨w.heap.size + 1, 1, none⟩ = some (.slice a3 m c3) := by
    rw [hW0]
    have h := box2_new (w.alloc (.cells #[.slice a n ca, .slice a1 m c1] 25)) (.slice a2 n ca2) (.slice a3 m c3) 25 (0, 0)
    simp only [World.alloc, Array.size_push] at h ⊢
    exact h
  have HW := Lib.hid hW0
  have HB0 := Lib.hid hB0
  have HX1 := Lib.hid hX1
  have HX2 := Lib.hid hX2
  clear hd he hSn hCm hW0 hB0 hX1 hX2
  go_enter Try.func12, Try.ntmps12
  go_wp2
  rw [← HW.out]
  obtain ⟨hx1, hx2⟩ := HX1.out
  obtain ⟨hy1, hy2⟩ := HX2.out
  go_loopw [5] (fun x wr => ∃ k q : Nat, k ≤ n ∧ x = .int .i64 k ∧ wr = W0.drewN q) (fun x _ => n - (intOf x).toNat)
  case atStart => exact ⟨0, 0, Nat.zero_le _, rfl, rfl⟩
  case round =>
    obtain ⟨k, q, hk, rfl, rfl⟩ := hrel
    by_cases hlt : k < n
    · obtain ⟨b, off, va, vn, vc, rfl, hcl, hvn, hva⟩ := sect_shape (HD.out.below HB0.out).1 k (by rw [← HSn.out]; exact hlt)
      obtain ⟨b2, off2, ua, un, uc, rfl, hcl2, hun, hua⟩ := sect_shape (HE.out.below HB0.out).1 k (by rw [← HSn.out]; exact hlt)
      have k1 : (0 : Int) ≤ (k : Int) := by omega
      have k2 : (k : Int) < (n : Int) := by omega
      have hv1 := fun j => conv_bytes (hva.1.below (below_drewN (Below.refl W0.heap.size W0) j))
      have hu1 := fun j => conv_bytes (hua.1.below (below_drewN (Below.refl W0.heap.size W0) j))
      clear hvn hun hva hua
      go_wp2_with fail
      go_quiet (fail)
      go_wp2
      go_roundw
      case rel => exact ⟨k + 1, _, by omega, by go_num, rfl⟩
      case measure => simp [intOf]; omega
    · obtain rfl : k = n := by omega
      go_wp2
      go_loopw [6] (fun x wr => ∃ j q : Nat, j ≤ m ∧ x = .int .i64 j ∧ wr = W0.drewN q) (fun x _ => m - (intOf x).toNat)
      case atStart => exact ⟨0, q, Nat.zero_le _, rfl, rfl⟩
      case round =>
        obtain ⟨j, q2, hj, rfl, rfl⟩ := hrel
        by_cases hlt : j < m
        · obtain ⟨b, off, z, va, vn, vc, rfl, hcl1, hcl2, hz, hvn, hva⟩ := write_shape (HD.out.below HB0.out).2 j (by rw [← HCm.out]; exact hlt)
          obtain ⟨b2, off2, z2, ua, un, uc, rfl, hcl3, hcl4, hz2, hun, hua⟩ := write_shape (HE.out.below HB0.out).2 j (by rw [← HCm.out]; exact hlt)
          obtain rfl : z2 = z := by rw [hz2, hz]
          have k1 : (0 : Int) ≤ (j : Int) := by omega
          have k2 : (j : Int) < (m : Int) := by omega
          have hv1 := fun j => conv_bytes (hva.1.below (below_drewN (Below.refl W0.heap.size W0) j))
          have hu1 := fun j => conv_bytes (hua.1.below (below_drewN (Below.refl W0.heap.size W0) j))
          have hzz : (z2 != z2) = false := by simp
          clear hvn hun hva hua hz hz2
          go_wp2_with fail
          go_quiet (fail)
          go_wp2
          go_roundw
          case rel => exact ⟨j + 1, _, by omega, by go_num, rfl⟩
          case measure => simp [intOf]; omega
        · obtain rfl : j = m := by omega
          go_wp2
          go_ret
          exact ⟨rfl, below_drewN HB0.out _⟩
end Go.Proofs.Ytaamjpcpdlanhaa
