/- What a disk's questions answer: has, Check, fault; the document's has, Check, Few. -/
import Derived.Test.YtaamjpcpdlanhaaDskR
import Derived.Deep.RegionHeld3
namespace Go.Proofs.Ytaamjpcpdlanhaa
open Go.RowKit Go.Lib

set_option maxHeartbeats 400000 in
theorem has_any (a : Option Addr) (n c : Nat) (a1 : Option Addr) (m c1 : Nat) (z : Int) (r : Bool) (hr : r = decide (0 ≤ z ∧ z < (n : Int))) (w : World) :
    Calls Try.prog 38 #[.agg #[.slice a n c, .slice a1 m c1], .int .i64 z] w fun e w' => e = .returned (.bool r) ∧ Below w.heap.size w w' := by
  by_cases h1 : 0 ≤ z
  · by_cases h2 : z < (n : Int)
    · obtain rfl : r = true := by rw [hr]; exact decide_eq_true ⟨h1, h2⟩
      clear hr
      go_enter Try.func38, Try.ntmps38
      go_wp2
      go_ret
      exact ⟨rfl, (Below.refl _ _).alloc (Nat.le_refl _) _⟩
    · obtain rfl : r = false := by rw [hr]; exact decide_eq_false (fun h => h2 h.2)
      clear hr
      go_enter Try.func38, Try.ntmps38
      go_wp2
      go_ret
      exact ⟨rfl, (Below.refl _ _).alloc (Nat.le_refl _) _⟩
  · obtain rfl : r = false := by rw [hr]; exact decide_eq_false (fun h => h1 h.1)
    clear hr
    go_enter Try.func38, Try.ntmps38
    go_wp2
    go_ret
    exact ⟨rfl, (Below.refl _ _).alloc (Nat.le_refl _) _⟩

set_option maxHeartbeats 400000 in
theorem refHas_any (a : Option Addr) (n c : Nat) (a1 : Option Addr) (m c1 : Nat) (z : Int) (r : Bool) (hr : r = decide (0 ≤ z ∧ z < (n : Int))) (w : World) :
    Calls Try.prog 26 #[.agg #[.slice a n c, .slice a1 m c1], .int .i64 z] w fun e w' => e = .returned (.bool r) ∧ Below w.heap.size w w' := by
  by_cases h1 : 0 ≤ z
  · by_cases h2 : z < (n : Int)
    · obtain rfl : r = true := by rw [hr]; exact decide_eq_true ⟨h1, h2⟩
      clear hr
      go_enter Try.func26, Try.ntmps26
      go_wp2
      go_ret
      exact ⟨rfl, (Below.refl _ _).alloc (Nat.le_refl _) _⟩
    · obtain rfl : r = false := by rw [hr]; exact decide_eq_false (fun h => h2 h.2)
      clear hr
      go_enter Try.func26, Try.ntmps26
      go_wp2
      go_ret
      exact ⟨rfl, (Below.refl _ _).alloc (Nat.le_refl _) _⟩
  · obtain rfl : r = false := by rw [hr]; exact decide_eq_false (fun h => h1 h.1)
    clear hr
    go_enter Try.func26, Try.ntmps26
    go_wp2
    go_ret
    exact ⟨rfl, (Below.refl _ _).alloc (Nat.le_refl _) _⟩

theorem all_take {α : Type} {p : α → Prop} (l : List α) (k : Nat) (d : α) (h : k < l.length) (h1 : ∀ x ∈ l.take k, p x) (h2 : p (l.getD k d)) : ∀ x ∈ l.take (k + 1), p x := by
  intro x hx
  rw [List.take_succ_eq_append_getElem h] at hx
  rcases List.mem_append.1 hx with hx | hx
  · exact h1 x hx
  · obtain rfl : x = l[k] := by simpa using hx
    simpa [List.getD_eq_getElem?_getD, h] using h2

theorem sect_shape {w : World} {a : Option Addr} {n c : Nat} {S : List (List UInt8)} (h : Sects w (.slice a n c) S) (k : Nat) (hk : k < S.length) :
    ∃ b off va vn vc, a = some ⟨b, off, none⟩ ∧ w.cell? ⟨b, off + k, none⟩ = some (.slice va vn vc) ∧ vn = (S.getD k []).length ∧ IsArg w (.slice va vn vc) (S.getD k []) := by
  obtain ⟨b, off, V, h1, h2, h3⟩ := h.at k hk
  obtain ⟨va, vn, vc, rfl, h4⟩ := h3.shape3
  exact ⟨b, off, va, vn, vc, h1, h2, h4, h3⟩
theorem write_shape {w : World} {a : Option Addr} {n c : Nat} {C : List (Int × List UInt8)} (h : Writes w (.slice a n c) C) (k : Nat) (hk : k < C.length) :
    ∃ b off z va vn vc, a = some ⟨b, off, none⟩ ∧ w.cell? ⟨b, off + k * 2, none⟩ = some (.int .i64 z) ∧ w.cell? ⟨b, off + k * 2 + 1, none⟩ = some (.slice va vn vc) ∧ z = (C.getD k (0, [])).1 ∧ vn = (C.getD k (0, [])).2.length ∧ IsArg w (.slice va vn vc) (C.getD k (0, [])).2 := by
  obtain ⟨b, off, V, h1, h2, h3, h4⟩ := h.at k hk
  obtain ⟨va, vn, vc, rfl, h5⟩ := h4.shape3
  exact ⟨b, off, _, va, vn, vc, h1, h2, h3, rfl, h5, h4⟩

set_option maxHeartbeats 4000000 in
theorem check_any (s c : Value) (S : List (List UInt8)) (C : List (Int × List UInt8)) (w : World) (hd : IsDisk w s c S C) (r : Bool) (hr : chkB S C = r) :
    Calls Try.prog 24 #[.agg #[s, c]] w fun e w' => e = .returned (.bool r) ∧ Below w.heap.size w w' := by
  obtain ⟨a, ca, rfl, hn⟩ := hd.1.shape
  obtain ⟨a1, c1, rfl, hm⟩ := hd.2.shape
  have HD := Lib.hid hd
  have HR := Lib.hid hr
  unfold maxLen at hn hm
  clear hd hr
  by_cases h1 : S.length ≤ 256
  · by_cases h2 : C.length ≤ 512
    · have d1 : decide ((256 : Int) < (S.length : Nat)) = false := decide_eq_false (by omega)
      have d2 : decide ((512 : Int) < (C.length : Nat)) = false := decide_eq_false (by omega)
      obtain ⟨W0, hW0⟩ : ∃ W, W = w.alloc (.cells #[.slice a S.length ca, .slice a1 C.length c1] 25) := ⟨_, rfl⟩
      have HB0 := Lib.hid (show Below w.heap.size w W0 by rw [hW0]; exact (Below.refl _ _).alloc (Nat.le_refl _) _)
      have HX := Lib.hid (show W0.cell? ⟨w.heap.size, 0, none⟩ = some (.slice a S.length ca) ∧ W0.cell? ⟨w.heap.size, 1, none⟩ = some (.slice a1 C.length c1) by rw [hW0]; exact box2_new _ _ _ _ _)
      have HW := Lib.hid hW0
      obtain ⟨n, hSn⟩ : ∃ n, n = S.length := ⟨_, rfl⟩
      obtain ⟨m, hCm⟩ : ∃ m, m = C.length := ⟨_, rfl⟩
      rw [← hSn] at h1 d1
      rw [← hCm] at h2 d2
      rw [← hSn, ← hCm] at HX HW HD
      rw [← hSn, ← hCm]
      have HSn := Lib.hid hSn
      have HCm := Lib.hid hCm
      clear hW0 hSn hCm hn hm
      go_enter Try.func24, Try.ntmps24
      go_wp2
      rw [← HW.out]
      go_loop [20] (fun i => ∃ k : Nat, k ≤ n ∧ i = .int .i64 k ∧ ∀ l ∈ S.take k, l.length = 256) (fun i => n - (intOf i).toNat)
      case atStart => exact ⟨0, Nat.zero_le _, rfl, fun l hl => by simp at hl⟩
      case round =>
        obtain ⟨k, hk, rfl, hall⟩ := hrel
        have HA := Lib.hid hall
        clear hall
        by_cases hlt : k < n
        · obtain ⟨b, off, va, vn, vc, rfl, hcl, hvn, _⟩ := sect_shape (HD.out.below HB0.out).1 k (by rw [← HSn.out]; exact hlt)
          have HV := Lib.hid hvn
          clear hvn
          by_cases h5 : vn = 256
          · subst h5
            go_wp2
            go_round
            case rel => exact ⟨k + 1, by omega, by go_num, all_take S k [] (by rw [← HSn.out]; exact hlt) HA.out HV.out.symm⟩
            case measure => simp [intOf]; omega
          · obtain rfl : r = false := by
              rw [← HR.out]
              refine chk_false fun h => h5 ?_
              rw [HV.out]
              exact h.2.2.1 _ (getD_mem S k [] (by rw [← HSn.out]; exact hlt))
            have h6 : ¬ ((vn : Int) = 256) := by omega
            go_wp2
            go_ret
            exact ⟨rfl, HB0.out⟩
        · obtain rfl : k = n := by omega
          have hx1 := HX.out.1
          have hx2 := HX.out.2
          have HS := Lib.hid (show ∀ l ∈ S, l.length = 256 by have h := HA.out; rw [HSn.out, List.take_length] at h; exact h)
          clear HA
          go_wp2
          clear hx1 hx2
          go_loopw [31] (fun i wr => ∃ j : Nat, j ≤ m ∧ i = .int .i64 j ∧ (∀ x ∈ C.take j, 0 ≤ x.1 ∧ x.1 < (S.length : Int) ∧ x.2.length = 256) ∧ Below W0.heap.size W0 wr) (fun i _ => m - (intOf i).toNat)
          case atStart => exact ⟨0, Nat.zero_le _, rfl, (fun x hx => by simp at hx), Below.refl _ _⟩
          case round =>
            obtain ⟨j, hj, rfl, hall, hbw⟩ := hrel
            have HA := Lib.hid hall
            have HBW := Lib.hid hbw
            have HBw := Lib.hid (HB0.out.trans (hbw.mono HB0.out.size))
            clear hall hbw
            by_cases hlt : j < m
            · obtain ⟨b, off, z, va, vn, vc, rfl, hcl1, hcl2, hz, hvn, _⟩ := write_shape (HD.out.below HBw.out).2 j (by rw [← HCm.out]; exact hlt)
              have HV := Lib.hid hvn
              have HZ := Lib.hid hz
              clear hvn hz
              have hX := kept2 HX.out HBW.out
              obtain ⟨hx1, hx2⟩ := kept2 hX ((Below.refl wr.heap.size wr).alloc (Nat.le_refl _) (.cells #[.int .i64 z, .slice va vn vc] 55))
              clear hX
              obtain ⟨q, hq⟩ : ∃ q, q = decide (0 ≤ z ∧ z < (k : Int)) := ⟨_, rfl⟩
              have HQ := Lib.hid hq
              have HB2 := Lib.hid (HBW.out.alloc HBW.out.size (.cells #[.int .i64 z, .slice va vn vc] 55))
              go_wp2_with fail
              refine (has_any _ _ _ _ _ _ _ q HQ.out _).mono ?_
              rintro e w2 ⟨rfl, hb⟩
              have HB3 := Lib.hid (HB2.out.trans (hb.mono HB2.out.size))
              obtain ⟨hy1, hy2⟩ := box2 hb
              clear hb hx1 hx2 hcl1 hcl2
              cases q with
              | false =>
                obtain rfl : r = false := by
                  rw [← HR.out]
                  refine chk_false fun h => of_decide_eq_false hq.symm ?_
                  have h7 := h.2.2.2 _ (getD_mem C j (0, []) (by rw [← HCm.out]; exact hlt))
                  rw [HZ.out]
                  exact ⟨h7.1, by rw [HSn.out]; exact h7.2.1⟩
                clear hq
                go_wp2
                go_ret
                exact ⟨rfl, HB0.out.trans (HB3.out.mono HB0.out.size)⟩
              | true =>
                have hz2 := of_decide_eq_true hq.symm
                clear hq
                have HZ2 := Lib.hid hz2
                clear hz2
                by_cases h5 : vn = 256
                · subst h5
                  go_wp2
                  go_roundw
                  case rel =>
                    refine ⟨j + 1, by omega, by go_num, all_take C j (0, []) (by rw [← HCm.out]; exact hlt) HA.out ?_, HB3.out⟩
                    have h8 := HZ2.out
                    rw [HZ.out, HSn.out] at h8
                    exact ⟨h8.1, h8.2, HV.out.symm⟩
                  case measure => simp [intOf]; omega
                · obtain rfl : r = false := by
                    rw [← HR.out]
                    refine chk_false fun h => h5 ?_
                    rw [HV.out]
                    exact (h.2.2.2 _ (getD_mem C j (0, []) (by rw [← HCm.out]; exact hlt))).2.2
                  have h6 : ¬ ((vn : Int) = 256) := by omega
                  go_wp2
                  go_ret
                  exact ⟨rfl, HB0.out.trans (HB3.out.mono HB0.out.size)⟩
            · obtain rfl : j = m := by omega
              obtain rfl : r = true := by
                rw [← HR.out]
                have h := HA.out
                rw [HCm.out, List.take_length] at h
                exact chk_true.2 ⟨by rw [← HSn.out]; exact h1, by rw [← HCm.out]; exact h2, HS.out, h⟩
              go_wp2
              go_ret
              exact ⟨rfl, HBw.out⟩
    · obtain rfl : r = false := by rw [← HR.out]; exact chk_false (fun h => h2 h.2.1)
      go_enter Try.func24, Try.ntmps24
      go_wp2
      go_ret
      exact ⟨rfl, (Below.refl _ _).alloc (Nat.le_refl _) _⟩
  · obtain rfl : r = false := by rw [← HR.out]; exact chk_false (fun h => h1 h.1)
    go_enter Try.func24, Try.ntmps24
    go_wp2
    go_ret
    exact ⟨rfl, (Below.refl _ _).alloc (Nat.le_refl _) _⟩
end Go.Proofs.Ytaamjpcpdlanhaa
