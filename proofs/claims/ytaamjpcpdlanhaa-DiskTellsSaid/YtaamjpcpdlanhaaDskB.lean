/- What the document's own Check and Few answer. -/
import Derived.Test.YtaamjpcpdlanhaaDskA
import Derived.Test.YtaamjpcpdlanhaaInv
namespace Go.Proofs.Ytaamjpcpdlanhaa
open Go.RowKit Go.Lib

structure RefCheckX where
  b0 : Bool
  b1 : Bool
  b2 : Bool
  b3 : Bool
  b4 : Bool
  b5 : Bool
  b6 : Bool
  b7 : Bool
  b8 : Bool
  b9 : Bool
  b10 : Bool
  b11 : Bool
  b12 : Bool
  b13 : Bool
  b14 : Bool
  b15 : Bool
  b16 : Bool
  b17 : Bool
  b18 : Bool
  s36 : Value
  s37 : Value
  s38 : Value
  s39 : Value
  s40 : Value
  s41 : Value
  s42 : Value
  s43 : Value
  s44 : Value
  s45 : Value
  s46 : Value
  s47 : Value
  s48 : Value
  s49 : Value
  s50 : Value
  s51 : Value
  s52 : Value
  s53 : Value
  s54 : Value
set_option maxHeartbeats 4000000 in
set_option maxRecDepth 100000 in
theorem refCheck_any (s c : Value) (S : List (List UInt8)) (C : List (Int × List UInt8)) (w : World) (hd : IsDisk w s c S C) (r : Bool) (hr : chkB S C = r) :
    Calls Try.prog 8 #[.agg #[s, c]] w fun e w' => e = .returned (.bool r) ∧ Below w.heap.size w w' := by
  obtain ⟨a, ca, rfl, hn⟩ := hd.1.shape
  obtain ⟨a1, c1, rfl, hm⟩ := hd.2.shape
  have HD := Lib.hid hd
  have HR := Lib.hid hr
  unfold maxLen at hn hm
  clear hd hr
  by_cases h1 : S.length ≤ 256
  · by_cases h2 : C.length ≤ 512
    · have d1 : decide ((256 : Int) < (S.length : Nat)) = false := decide_eq_false (by omega)
      have d2 : decide ((512 : Int) < (C.length : Nat)) = false := decide_eq_false (by omega)
      obtain ⟨W0, hW0⟩ : ∃ W, W = w.alloc (.cells #[.slice a S.length ca, .slice a1 C.length c1] 25) := ⟨_, rfl⟩
      have HB0 := Lib.hid (show Below w.heap.size w W0 by rw [hW0]; exact (Below.refl _ _).alloc (Nat.le_refl _) _)
      have HX := Lib.hid (show W0.cell? ⟨w.heap.size, 0, none⟩ = some (.slice a S.length ca) ∧ W0.cell? ⟨w.heap.size, 1, none⟩ = some (.slice a1 C.length c1) by rw [hW0]; exact box2_new _ _ _ _ _)
      have HW := Lib.hid hW0
      obtain ⟨n, hSn⟩ : ∃ n, n = S.length := ⟨_, rfl⟩
      obtain ⟨m, hCm⟩ : ∃ m, m = C.length := ⟨_, rfl⟩
      rw [← hSn] at h1 d1
      rw [← hCm] at h2 d2
      rw [← hSn, ← hCm] at HX HW HD
      rw [← hSn, ← hCm]
      have HSn := Lib.hid hSn
      have HCm := Lib.hid hCm
      clear hW0 hSn hCm hn hm
      obtain ⟨hx1, hx2⟩ := HX.out
      go_enter Try.func8, Try.ntmps8
      go_wp2
      rw [← HW.out]
      go_loop [3] (fun i => ∃ k : Nat, k ≤ n ∧ i = .int .i64 k ∧ ∀ l ∈ S.take k, l.length = 256) (fun i => n - (intOf i).toNat)
      case atStart => exact ⟨0, Nat.zero_le _, rfl, fun l hl => by simp at hl⟩
      case round =>
        obtain ⟨k, hk, rfl, hall⟩ := hrel
        have HA := Lib.hid hall
        clear hall
        by_cases hlt : k < n
        · obtain ⟨b, off, va, vn, vc, rfl, hcl, hvn, _⟩ := sect_shape (HD.out.below HB0.out).1 k (by rw [← HSn.out]; exact hlt)
          have HV := Lib.hid hvn
          clear hvn
          by_cases h5 : vn = 256
          · subst h5
            go_wp2
            go_round
            case rel => exact ⟨k + 1, by omega, by go_num, all_take S k [] (by rw [← HSn.out]; exact hlt) HA.out HV.out.symm⟩
            case measure => simp [intOf]; omega
          · obtain rfl : r = false := by
              rw [← HR.out]
              refine chk_false fun h => h5 ?_
              rw [HV.out]
              exact h.2.2.1 _ (getD_mem S k [] (by rw [← HSn.out]; exact hlt))
            have h6 : ¬ ((vn : Int) = 256) := by omega
            go_wp2
            go_ret
            exact ⟨rfl, HB0.out⟩
        · obtain rfl : k = n := by omega
          have HS := Lib.hid (show ∀ l ∈ S, l.length = 256 by have h := HA.out; rw [HSn.out, List.take_length] at h; exact h)
          clear HA
          go_wp2
          clear hx1 hx2
          go_loopw [4] (fun i wr => ∃ j : Nat, j ≤ m ∧ i = .int .i64 j ∧ (∀ x ∈ C.take j, 0 ≤ x.1 ∧ x.1 < (S.length : Int) ∧ x.2.length = 256) ∧ Below W0.heap.size W0 wr) (fun i _ => m - (intOf i).toNat)
          case atStart => exact ⟨0, Nat.zero_le _, rfl, (fun x hx => by simp at hx), Below.refl _ _⟩
          case round =>
            obtain ⟨j, hj, rfl, hall, hbw⟩ := hrel
            have HA := Lib.hid hall
            have HBW := Lib.hid hbw
            have HBw := Lib.hid (HB0.out.trans (hbw.mono HB0.out.size))
            clear hall hbw
            obtain ⟨hx1, hx2⟩ := kept2 HX.out HBW.out
            by_cases hlt : j < m
            · obtain ⟨b, off, z, va, vn, vc, rfl, hcl1, hcl2, hz, hvn, _⟩ := write_shape (HD.out.below HBw.out).2 j (by rw [← HCm.out]; exact hlt)
              have HV := Lib.hid hvn
              have HZ := Lib.hid hz
              clear hvn hz
              have k1 : (0 : Int) ≤ (j : Int) := by omega
              have k2 : (j : Int) < (m : Int) := by omega
              obtain ⟨q, hq⟩ : ∃ q, q = decide (0 ≤ z ∧ z < (k : Int)) := ⟨_, rfl⟩
              have HQ := Lib.hid hq
              cases q with
              | false =>
                obtain rfl : r = false := by
                  rw [← HR.out]
                  refine chk_false fun h => of_decide_eq_false hq.symm ?_
                  have h7 := h.2.2.2 _ (getD_mem C j (0, []) (by rw [← HCm.out]; exact hlt))
                  rw [HZ.out]
                  exact ⟨h7.1, by rw [HSn.out]; exact h7.2.1⟩
                clear hq
                have HXW := Lib.hid (show ∀ W, Below wr.heap.size wr W → W.cell? ⟨w.heap.size, 0, none⟩ = some (.slice a k ca) ∧ W.cell? ⟨w.heap.size, 1, none⟩ = some (.slice (some ⟨b, off, none⟩) m c1) from fun W h => kept2 ⟨hx1, hx2⟩ h)
                have HCW := Lib.hid (show ∀ W, Below wr.heap.size wr W → W.cell? ⟨b, off + j * 2, none⟩ = some (.int .i64 z) ∧ W.cell? ⟨b, off + j * 2 + 1, none⟩ = some (.slice va vn vc) from fun W h => ⟨kept hcl1 h, kept hcl2 h⟩)
                have HAS := Lib.hid (show ∀ W, Below wr.heap.size wr W → Calls Try.prog 26 #[.agg #[.slice a k ca, .slice (some ⟨b, off, none⟩) m c1], .int .i64 z] W fun e w' => e = .returned (.bool false) ∧ Below W.heap.size W w' from fun W _ => refHas_any _ _ _ _ _ _ _ false HQ.out W)
                go_wp2_with fail
                clear hx1 hx2 hcl1 hcl2
                refine wp_region_rec (X := RefCheckX) (by kernel_rfl) (by kernel_rfl) (fun x => #[x.b0, x.b1, x.b2, x.b3, x.b4, x.b5, x.b6, x.b7, x.b8, x.b9, x.b10, x.b11, x.b12, x.b13, x.b14, x.b15, x.b16, x.b17, x.b18]) (fun x => { tmps := List.toArray ((Value.agg #[Value.slice a k ca, Value.slice (some ⟨b, off, none⟩) m c1]) :: (Value.pointer (some ⟨w.heap.size, 0, none⟩)) :: u2 :: (Value.int IntKind.i64 ↑k) :: (Value.int IntKind.i64 ↑j) :: (Value.pointer (some ⟨w.heap.size, 0, none⟩)) :: (Value.slice a k ca) :: (Value.int IntKind.i64 ↑k) :: (Value.bool false) :: (Value.bool false) :: (Value.pointer (some ⟨w.heap.size, 1, none⟩)) :: (Value.slice (some ⟨b, off, none⟩) m c1) :: (Value.int IntKind.i64 ↑m) :: (Value.bool false) :: (Value.bool false) :: (Value.int IntKind.i64 ↑k) :: (Value.pointer (some ⟨w.heap.size, 0, none⟩)) :: (Value.slice a k ca) :: (Value.int IntKind.i64 ↑k) :: (Value.bool false) :: u20 :: u21 :: u22 :: u23 :: u24 :: u25 :: u26 :: u27 :: u28 :: (Value.int IntKind.i64 ↑j) :: (Value.pointer (some ⟨w.heap.size, 1, none⟩)) :: (Value.slice (some ⟨b, off, none⟩) m c1) :: (Value.int IntKind.i64 ↑m) :: (Value.bool true) :: u34 :: u35 :: x.s36 :: x.s37 :: x.s38 :: x.s39 :: x.s40 :: x.s41 :: x.s42 :: x.s43 :: x.s44 :: x.s45 :: x.s46 :: x.s47 :: x.s48 :: x.s49 :: x.s50 :: x.s51 :: x.s52 :: x.s53 :: x.s54 :: []), defers := [] }) (fun x W => (x.b0 = true → x.s36 = .agg #[.slice a k ca, .slice (some ⟨b, off, none⟩) m c1]) ∧ (x.b1 = true → x.s37 = .pointer (some ⟨w.heap.size, 1, none⟩)) ∧ (x.b2 = true → x.s38 = .slice (some ⟨b, off, none⟩) m c1) ∧ (x.b3 = true → x.s39 = .int .i64 j) ∧ (x.b4 = true → x.s40 = .pointer (some ⟨b, off + j * 2, none⟩)) ∧ (x.b5 = true → x.s41 = .pointer (some ⟨b, off + j * 2, none⟩)) ∧ (x.b6 = true → x.s42 = .int .i64 z) ∧ (x.b7 = true → x.s43 = .bool false) ∧ (x.b8 = true → x.s44 = .bool true) ∧ (x.b9 = true → x.s45 = .bool true) ∧ (x.b10 = true → x.s46 = undef) ∧ (x.b11 = true → x.s47 = undef) ∧ (x.b12 = true → x.s48 = undef) ∧ (x.b13 = true → x.s49 = undef) ∧ (x.b14 = true → x.s50 = undef) ∧ (x.b15 = true → x.s51 = undef) ∧ (x.b16 = true → x.s52 = undef) ∧ (x.b17 = true → x.s53 = undef) ∧ (x.b18 = true → x.s54 = .bool true) ∧ (Below wr.heap.size wr W)) ⟨false, false, false, false, false, false, false, false, false, false, false, false, false, false, false, false, false, false, false, u36, u37, u38, u39, u40, u41, u42, u43, u44, u45, u46, u47, u48, u49, u50, u51, u52, u53, u54⟩ rfl rfl ⟨(fun h => by cases h), (fun h => by cases h), (fun h => by cases h), (fun h => by cases h), (fun h => by cases h), (fun h => by cases h), (fun h => by cases h), (fun h => by cases h), (fun h => by cases h), (fun h => by cases h), (fun h => by cases h), (fun h => by cases h), (fun h => by cases h), (fun h => by cases h), (fun h => by cases h), (fun h => by cases h), (fun h => by cases h), (fun h => by cases h), (fun h => by cases h), (Below.refl _ _).drew⟩ (fun _ => rfl) ?hstep ?hdone
                case hstep =>
                  rintro ⟨b0, b1, b2, b3, b4, b5, b6, b7, b8, b9, b10, b11, b12, b13, b14, b15, b16, b17, b18, s36, s37, s38, s39, s40, s41, s42, s43, s44, s45, s46, s47, s48, s49, s50, s51, s52, s53, s54⟩ W hI i hi
                  dsimp only at hI hi ⊢
                  have HI := Lib.hid hI
                  clear hI
                  rw [Region.ready, List.mem_filter, List.mem_range] at hi
                  obtain ⟨hlt, hp⟩ := hi
                  have hi7 : i = 0 ∨ i = 1 ∨ i = 2 ∨ i = 3 ∨ i = 4 ∨ i = 5 ∨ i = 6 ∨ i = 7 ∨ i = 8 ∨ i = 9 ∨ i = 10 ∨ i = 11 ∨ i = 12 ∨ i = 13 ∨ i = 14 ∨ i = 15 ∨ i = 16 ∨ i = 17 ∨ i = 18 := by simp at hlt; omega
                  clear hlt
                  rcases hi7 with rfl | rfl | rfl | rfl | rfl | rfl | rfl | rfl | rfl | rfl | rfl | rfl | rfl | rfl | rfl | rfl | rfl | rfl | rfl
                  all_goals simp [Region.binds] at hp
                  · have hn0 : b0 = false := by revert hp; cases b0 <;> simp
                    clear hp
                    subst hn0
                    refine inv_op (o := ⟨some 36, _, _, _, _, _⟩) rfl (fun K' hK' => ?_)
                    have gW := HI.out.2.2.2.2.2.2.2.2.2.2.2.2.2.2.2.2.2.2.2
                    obtain ⟨hc1, hc2⟩ := HXW.out W gW
                    go_simp
                    obtain ⟨h0, h1, h2, h3, h4, h5, h6, h7, h8, h9, h10, h11, h12, h13, h14, h15, h16, h17, h18, gW⟩ := HI.out
                    exact hK'.out _ _ ⟨⟨true, b1, b2, b3, b4, b5, b6, b7, b8, b9, b10, b11, b12, b13, b14, b15, b16, b17, b18, _, s37, s38, s39, s40, s41, s42, s43, s44, s45, s46, s47, s48, s49, s50, s51, s52, s53, s54⟩, rfl, rfl, (fun _ => rfl), h1, h2, h3, h4, h5, h6, h7, h8, h9, h10, h11, h12, h13, h14, h15, h16, h17, h18, gW⟩
                  · have hn1 : b1 = false := by revert hp; cases b1 <;> simp
                    clear hp
                    subst hn1
                    refine inv_op (o := ⟨some 37, _, _, _, _, _⟩) rfl (fun K' hK' => ?_)
                    go_simp
                    obtain ⟨h0, h1, h2, h3, h4, h5, h6, h7, h8, h9, h10, h11, h12, h13, h14, h15, h16, h17, h18, gW⟩ := HI.out
                    exact hK'.out _ _ ⟨⟨b0, true, b2, b3, b4, b5, b6, b7, b8, b9, b10, b11, b12, b13, b14, b15, b16, b17, b18, s36, _, s38, s39, s40, s41, s42, s43, s44, s45, s46, s47, s48, s49, s50, s51, s52, s53, s54⟩, rfl, rfl, h0, (fun _ => rfl), h2, h3, h4, h5, h6, h7, h8, h9, h10, h11, h12, h13, h14, h15, h16, h17, h18, gW⟩
                  · have hn2 : b2 = false := by revert hp; cases b2 <;> simp
                    have e1 : b1 = true := by revert hp; cases b1 <;> simp
                    clear hp
                    obtain rfl := (HI.out.2.1) e1
                    subst hn2
                    refine inv_op (o := ⟨some 38, _, _, _, _, _⟩) rfl (fun K' hK' => ?_)
                    have gW := HI.out.2.2.2.2.2.2.2.2.2.2.2.2.2.2.2.2.2.2.2
                    obtain ⟨hc1, hc2⟩ := HXW.out W gW
                    go_simp
                    obtain ⟨h0, h1, h2, h3, h4, h5, h6, h7, h8, h9, h10, h11, h12, h13, h14, h15, h16, h17, h18, gW⟩ := HI.out
                    exact hK'.out _ _ ⟨⟨b0, b1, true, b3, b4, b5, b6, b7, b8, b9, b10, b11, b12, b13, b14, b15, b16, b17, b18, s36, _, _, s39, s40, s41, s42, s43, s44, s45, s46, s47, s48, s49, s50, s51, s52, s53, s54⟩, rfl, rfl, h0, h1, (fun _ => rfl), h3, h4, h5, h6, h7, h8, h9, h10, h11, h12, h13, h14, h15, h16, h17, h18, gW⟩
                  · have hn3 : b3 = false := by revert hp; cases b3 <;> simp
                    clear hp
                    subst hn3
                    refine inv_op (o := ⟨some 39, _, _, _, _, _⟩) rfl (fun K' hK' => ?_)
                    go_simp
                    obtain ⟨h0, h1, h2, h3, h4, h5, h6, h7, h8, h9, h10, h11, h12, h13, h14, h15, h16, h17, h18, gW⟩ := HI.out
                    exact hK'.out _ _ ⟨⟨b0, b1, b2, true, b4, b5, b6, b7, b8, b9, b10, b11, b12, b13, b14, b15, b16, b17, b18, s36, s37, s38, _, s40, s41, s42, s43, s44, s45, s46, s47, s48, s49, s50, s51, s52, s53, s54⟩, rfl, rfl, h0, h1, h2, (fun _ => rfl), h4, h5, h6, h7, h8, h9, h10, h11, h12, h13, h14, h15, h16, h17, h18, gW⟩
                  · have hn4 : b4 = false := by revert hp; cases b4 <;> simp
                    have e2 : b2 = true := by revert hp; cases b2 <;> simp
                    have e3 : b3 = true := by revert hp; cases b3 <;> simp
                    clear hp
                    obtain rfl := (HI.out.2.2.1) e2
                    obtain rfl := (HI.out.2.2.2.1) e3
                    subst hn4
                    refine inv_op (o := ⟨some 40, _, _, _, _, _⟩) rfl (fun K' hK' => ?_)
                    go_simp
                    obtain ⟨h0, h1, h2, h3, h4, h5, h6, h7, h8, h9, h10, h11, h12, h13, h14, h15, h16, h17, h18, gW⟩ := HI.out
                    exact hK'.out _ _ ⟨⟨b0, b1, b2, b3, true, b5, b6, b7, b8, b9, b10, b11, b12, b13, b14, b15, b16, b17, b18, s36, s37, _, _, _, s41, s42, s43, s44, s45, s46, s47, s48, s49, s50, s51, s52, s53, s54⟩, rfl, rfl, h0, h1, h2, h3, (fun _ => rfl), h5, h6, h7, h8, h9, h10, h11, h12, h13, h14, h15, h16, h17, h18, gW⟩
                  · have hn5 : b5 = false := by revert hp; cases b5 <;> simp
                    have e4 : b4 = true := by revert hp; cases b4 <;> simp
                    clear hp
                    obtain rfl := (HI.out.2.2.2.2.1) e4
                    subst hn5
                    refine inv_op (o := ⟨some 41, _, _, _, _, _⟩) rfl (fun K' hK' => ?_)
                    go_simp
                    obtain ⟨h0, h1, h2, h3, h4, h5, h6, h7, h8, h9, h10, h11, h12, h13, h14, h15, h16, h17, h18, gW⟩ := HI.out
                    exact hK'.out _ _ ⟨⟨b0, b1, b2, b3, b4, true, b6, b7, b8, b9, b10, b11, b12, b13, b14, b15, b16, b17, b18, s36, s37, s38, s39, _, _, s42, s43, s44, s45, s46, s47, s48, s49, s50, s51, s52, s53, s54⟩, rfl, rfl, h0, h1, h2, h3, h4, (fun _ => rfl), h6, h7, h8, h9, h10, h11, h12, h13, h14, h15, h16, h17, h18, gW⟩
                  · have hn6 : b6 = false := by revert hp; cases b6 <;> simp
                    have e5 : b5 = true := by revert hp; cases b5 <;> simp
                    clear hp
                    obtain rfl := (HI.out.2.2.2.2.2.1) e5
                    subst hn6
                    refine inv_op (o := ⟨some 42, _, _, _, _, _⟩) rfl (fun K' hK' => ?_)
                    have gW := HI.out.2.2.2.2.2.2.2.2.2.2.2.2.2.2.2.2.2.2.2
                    obtain ⟨hc1, hc2⟩ := HCW.out W gW
                    go_simp
                    obtain ⟨h0, h1, h2, h3, h4, h5, h6, h7, h8, h9, h10, h11, h12, h13, h14, h15, h16, h17, h18, gW⟩ := HI.out
                    exact hK'.out _ _ ⟨⟨b0, b1, b2, b3, b4, b5, true, b7, b8, b9, b10, b11, b12, b13, b14, b15, b16, b17, b18, s36, s37, s38, s39, s40, _, _, s43, s44, s45, s46, s47, s48, s49, s50, s51, s52, s53, s54⟩, rfl, rfl, h0, h1, h2, h3, h4, h5, (fun _ => rfl), h7, h8, h9, h10, h11, h12, h13, h14, h15, h16, h17, h18, gW⟩
                  · have hn7 : b7 = false := by revert hp; cases b7 <;> simp
                    have e0 : b0 = true := by revert hp; cases b0 <;> simp
                    have e6 : b6 = true := by revert hp; cases b6 <;> simp
                    clear hp
                    obtain rfl := (HI.out.1) e0
                    obtain rfl := (HI.out.2.2.2.2.2.2.1) e6
                    subst hn7
                    refine inv_op (o := ⟨some 43, _, _, _, _, _⟩) rfl (fun K' hK' => ?_)
                    have gW := HI.out.2.2.2.2.2.2.2.2.2.2.2.2.2.2.2.2.2.2.2
                    go_simp
                    refine (HAS.out W gW).mono ?_
                    rintro e w1 ⟨rfl, bn⟩
                    obtain ⟨h0, h1, h2, h3, h4, h5, h6, h7, h8, h9, h10, h11, h12, h13, h14, h15, h16, h17, h18, gW⟩ := HI.out
                    exact hK'.out _ _ ⟨⟨b0, b1, b2, b3, b4, b5, b6, true, b8, b9, b10, b11, b12, b13, b14, b15, b16, b17, b18, _, s37, s38, s39, s40, s41, _, _, s44, s45, s46, s47, s48, s49, s50, s51, s52, s53, s54⟩, rfl, rfl, h0, h1, h2, h3, h4, h5, h6, (fun _ => rfl), h8, h9, h10, h11, h12, h13, h14, h15, h16, h17, h18, (gW.trans (bn.mono gW.size))⟩
                  · have hn8 : b8 = false := by revert hp; cases b8 <;> simp
                    have e7 : b7 = true := by revert hp; cases b7 <;> simp
                    clear hp
                    obtain rfl := (HI.out.2.2.2.2.2.2.2.1) e7
                    subst hn8
                    refine inv_op (o := ⟨some 44, _, _, _, _, _⟩) rfl (fun K' hK' => ?_)
                    go_simp
                    obtain ⟨h0, h1, h2, h3, h4, h5, h6, h7, h8, h9, h10, h11, h12, h13, h14, h15, h16, h17, h18, gW⟩ := HI.out
                    exact hK'.out _ _ ⟨⟨b0, b1, b2, b3, b4, b5, b6, b7, true, b9, b10, b11, b12, b13, b14, b15, b16, b17, b18, s36, s37, s38, s39, s40, s41, s42, _, _, s45, s46, s47, s48, s49, s50, s51, s52, s53, s54⟩, rfl, rfl, h0, h1, h2, h3, h4, h5, h6, h7, (fun _ => rfl), h9, h10, h11, h12, h13, h14, h15, h16, h17, h18, gW⟩
                  · have hn9 : b9 = false := by revert hp; cases b9 <;> simp
                    have e8 : b8 = true := by revert hp; cases b8 <;> simp
                    clear hp
                    obtain rfl := (HI.out.2.2.2.2.2.2.2.2.1) e8
                    subst hn9
                    refine inv_op (o := ⟨some 45, _, _, _, _, _⟩) rfl (fun K' hK' => ?_)
                    go_simp
                    obtain ⟨h0, h1, h2, h3, h4, h5, h6, h7, h8, h9, h10, h11, h12, h13, h14, h15, h16, h17, h18, gW⟩ := HI.out
                    exact hK'.out _ _ ⟨⟨b0, b1, b2, b3, b4, b5, b6, b7, b8, true, b10, b11, b12, b13, b14, b15, b16, b17, b18, s36, s37, s38, s39, s40, s41, s42, s43, _, _, s46, s47, s48, s49, s50, s51, s52, s53, s54⟩, rfl, rfl, h0, h1, h2, h3, h4, h5, h6, h7, h8, (fun _ => rfl), h10, h11, h12, h13, h14, h15, h16, h17, h18, gW⟩
                  · have hn10 : b10 = false := by revert hp; cases b10 <;> simp
                    have e9 : b9 = true := by revert hp; cases b9 <;> simp
                    clear hp
                    obtain rfl := (HI.out.2.2.2.2.2.2.2.2.2.1) e9
                    subst hn10
                    refine inv_op (o := ⟨some 46, _, _, _, _, _⟩) rfl (fun K' hK' => ?_)
                    go_simp
                    obtain ⟨h0, h1, h2, h3, h4, h5, h6, h7, h8, h9, h10, h11, h12, h13, h14, h15, h16, h17, h18, gW⟩ := HI.out
                    exact hK'.out _ _ ⟨⟨b0, b1, b2, b3, b4, b5, b6, b7, b8, b9, true, b11, b12, b13, b14, b15, b16, b17, b18, s36, s37, s38, s39, s40, s41, s42, s43, s44, _, _, s47, s48, s49, s50, s51, s52, s53, s54⟩, rfl, rfl, h0, h1, h2, h3, h4, h5, h6, h7, h8, h9, (fun _ => rfl), h11, h12, h13, h14, h15, h16, h17, h18, gW⟩
                  · have hn11 : b11 = false := by revert hp; cases b11 <;> simp
                    have e10 : b10 = true := by revert hp; cases b10 <;> simp
                    have e9 : b9 = true := by revert hp; cases b9 <;> simp
                    clear hp
                    obtain rfl := (HI.out.2.2.2.2.2.2.2.2.2.2.1) e10
                    obtain rfl := (HI.out.2.2.2.2.2.2.2.2.2.1) e9
                    subst hn11
                    refine inv_op (o := ⟨some 47, _, _, _, _, _⟩) rfl (fun K' hK' => ?_)
                    go_simp
                    obtain ⟨h0, h1, h2, h3, h4, h5, h6, h7, h8, h9, h10, h11, h12, h13, h14, h15, h16, h17, h18, gW⟩ := HI.out
                    exact hK'.out _ _ ⟨⟨b0, b1, b2, b3, b4, b5, b6, b7, b8, b9, b10, true, b12, b13, b14, b15, b16, b17, b18, s36, s37, s38, s39, s40, s41, s42, s43, s44, _, _, _, s48, s49, s50, s51, s52, s53, s54⟩, rfl, rfl, h0, h1, h2, h3, h4, h5, h6, h7, h8, h9, h10, (fun _ => rfl), h12, h13, h14, h15, h16, h17, h18, gW⟩
                  · have hn12 : b12 = false := by revert hp; cases b12 <;> simp
                    have e9 : b9 = true := by revert hp; cases b9 <;> simp
                    clear hp
                    obtain rfl := (HI.out.2.2.2.2.2.2.2.2.2.1) e9
                    subst hn12
                    refine inv_op (o := ⟨some 48, _, _, _, _, _⟩) rfl (fun K' hK' => ?_)
                    go_simp
                    obtain ⟨h0, h1, h2, h3, h4, h5, h6, h7, h8, h9, h10, h11, h12, h13, h14, h15, h16, h17, h18, gW⟩ := HI.out
                    exact hK'.out _ _ ⟨⟨b0, b1, b2, b3, b4, b5, b6, b7, b8, b9, b10, b11, true, b13, b14, b15, b16, b17, b18, s36, s37, s38, s39, s40, s41, s42, s43, s44, _, s46, s47, _, s49, s50, s51, s52, s53, s54⟩, rfl, rfl, h0, h1, h2, h3, h4, h5, h6, h7, h8, h9, h10, h11, (fun _ => rfl), h13, h14, h15, h16, h17, h18, gW⟩
                  · have hn13 : b13 = false := by revert hp; cases b13 <;> simp
                    have e11 : b11 = true := by revert hp; cases b11 <;> simp
                    have e12 : b12 = true := by revert hp; cases b12 <;> simp
                    have e9 : b9 = true := by revert hp; cases b9 <;> simp
                    clear hp
                    obtain rfl := (HI.out.2.2.2.2.2.2.2.2.2.2.2.1) e11
                    obtain rfl := (HI.out.2.2.2.2.2.2.2.2.2.2.2.2.1) e12
                    obtain rfl := (HI.out.2.2.2.2.2.2.2.2.2.1) e9
                    subst hn13
                    refine inv_op (o := ⟨some 49, _, _, _, _, _⟩) rfl (fun K' hK' => ?_)
                    go_simp
                    obtain ⟨h0, h1, h2, h3, h4, h5, h6, h7, h8, h9, h10, h11, h12, h13, h14, h15, h16, h17, h18, gW⟩ := HI.out
                    exact hK'.out _ _ ⟨⟨b0, b1, b2, b3, b4, b5, b6, b7, b8, b9, b10, b11, b12, true, b14, b15, b16, b17, b18, s36, s37, s38, s39, s40, s41, s42, s43, s44, _, s46, _, _, _, s50, s51, s52, s53, s54⟩, rfl, rfl, h0, h1, h2, h3, h4, h5, h6, h7, h8, h9, h10, h11, h12, (fun _ => rfl), h14, h15, h16, h17, h18, gW⟩
                  · have hn14 : b14 = false := by revert hp; cases b14 <;> simp
                    have e13 : b13 = true := by revert hp; cases b13 <;> simp
                    have e9 : b9 = true := by revert hp; cases b9 <;> simp
                    clear hp
                    obtain rfl := (HI.out.2.2.2.2.2.2.2.2.2.2.2.2.2.1) e13
                    obtain rfl := (HI.out.2.2.2.2.2.2.2.2.2.1) e9
                    subst hn14
                    refine inv_op (o := ⟨some 50, _, _, _, _, _⟩) rfl (fun K' hK' => ?_)
                    go_simp
                    obtain ⟨h0, h1, h2, h3, h4, h5, h6, h7, h8, h9, h10, h11, h12, h13, h14, h15, h16, h17, h18, gW⟩ := HI.out
                    exact hK'.out _ _ ⟨⟨b0, b1, b2, b3, b4, b5, b6, b7, b8, b9, b10, b11, b12, b13, true, b15, b16, b17, b18, s36, s37, s38, s39, s40, s41, s42, s43, s44, _, s46, s47, s48, _, _, s51, s52, s53, s54⟩, rfl, rfl, h0, h1, h2, h3, h4, h5, h6, h7, h8, h9, h10, h11, h12, h13, (fun _ => rfl), h15, h16, h17, h18, gW⟩
                  · have hn15 : b15 = false := by revert hp; cases b15 <;> simp
                    have e14 : b14 = true := by revert hp; cases b14 <;> simp
                    have e9 : b9 = true := by revert hp; cases b9 <;> simp
                    clear hp
                    obtain rfl := (HI.out.2.2.2.2.2.2.2.2.2.2.2.2.2.2.1) e14
                    obtain rfl := (HI.out.2.2.2.2.2.2.2.2.2.1) e9
                    subst hn15
                    refine inv_op (o := ⟨some 51, _, _, _, _, _⟩) rfl (fun K' hK' => ?_)
                    go_simp
                    obtain ⟨h0, h1, h2, h3, h4, h5, h6, h7, h8, h9, h10, h11, h12, h13, h14, h15, h16, h17, h18, gW⟩ := HI.out
                    exact hK'.out _ _ ⟨⟨b0, b1, b2, b3, b4, b5, b6, b7, b8, b9, b10, b11, b12, b13, b14, true, b16, b17, b18, s36, s37, s38, s39, s40, s41, s42, s43, s44, _, s46, s47, s48, s49, _, _, s52, s53, s54⟩, rfl, rfl, h0, h1, h2, h3, h4, h5, h6, h7, h8, h9, h10, h11, h12, h13, h14, (fun _ => rfl), h16, h17, h18, gW⟩
                  · have hn16 : b16 = false := by revert hp; cases b16 <;> simp
                    have e15 : b15 = true := by revert hp; cases b15 <;> simp
                    have e9 : b9 = true := by revert hp; cases b9 <;> simp
                    clear hp
                    obtain rfl := (HI.out.2.2.2.2.2.2.2.2.2.2.2.2.2.2.2.1) e15
                    obtain rfl := (HI.out.2.2.2.2.2.2.2.2.2.1) e9
                    subst hn16
                    refine inv_op (o := ⟨some 52, _, _, _, _, _⟩) rfl (fun K' hK' => ?_)
                    go_simp
                    obtain ⟨h0, h1, h2, h3, h4, h5, h6, h7, h8, h9, h10, h11, h12, h13, h14, h15, h16, h17, h18, gW⟩ := HI.out
                    exact hK'.out _ _ ⟨⟨b0, b1, b2, b3, b4, b5, b6, b7, b8, b9, b10, b11, b12, b13, b14, b15, true, b17, b18, s36, s37, s38, s39, s40, s41, s42, s43, s44, _, s46, s47, s48, s49, s50, _, _, s53, s54⟩, rfl, rfl, h0, h1, h2, h3, h4, h5, h6, h7, h8, h9, h10, h11, h12, h13, h14, h15, (fun _ => rfl), h17, h18, gW⟩
                  · have hn17 : b17 = false := by revert hp; cases b17 <;> simp
                    have e16 : b16 = true := by revert hp; cases b16 <;> simp
                    have e9 : b9 = true := by revert hp; cases b9 <;> simp
                    clear hp
                    obtain rfl := (HI.out.2.2.2.2.2.2.2.2.2.2.2.2.2.2.2.2.1) e16
                    obtain rfl := (HI.out.2.2.2.2.2.2.2.2.2.1) e9
                    subst hn17
                    refine inv_op (o := ⟨some 53, _, _, _, _, _⟩) rfl (fun K' hK' => ?_)
                    go_simp
                    obtain ⟨h0, h1, h2, h3, h4, h5, h6, h7, h8, h9, h10, h11, h12, h13, h14, h15, h16, h17, h18, gW⟩ := HI.out
                    exact hK'.out _ _ ⟨⟨b0, b1, b2, b3, b4, b5, b6, b7, b8, b9, b10, b11, b12, b13, b14, b15, b16, true, b18, s36, s37, s38, s39, s40, s41, s42, s43, s44, _, s46, s47, s48, s49, s50, s51, _, _, s54⟩, rfl, rfl, h0, h1, h2, h3, h4, h5, h6, h7, h8, h9, h10, h11, h12, h13, h14, h15, h16, (fun _ => rfl), h18, gW⟩
                  · have hn18 : b18 = false := by revert hp; cases b18 <;> simp
                    have e9 : b9 = true := by revert hp; cases b9 <;> simp
                    have e17 : b17 = true := by revert hp; cases b17 <;> simp
                    clear hp
                    obtain rfl := (HI.out.2.2.2.2.2.2.2.2.2.1) e9
                    obtain rfl := (HI.out.2.2.2.2.2.2.2.2.2.2.2.2.2.2.2.2.2.1) e17
                    subst hn18
                    refine inv_op (o := ⟨some 54, _, _, _, _, _⟩) rfl (fun K' hK' => ?_)
                    go_simp
                    obtain ⟨h0, h1, h2, h3, h4, h5, h6, h7, h8, h9, h10, h11, h12, h13, h14, h15, h16, h17, h18, gW⟩ := HI.out
                    exact hK'.out _ _ ⟨⟨b0, b1, b2, b3, b4, b5, b6, b7, b8, b9, b10, b11, b12, b13, b14, b15, b16, b17, true, s36, s37, s38, s39, s40, s41, s42, s43, s44, _, s46, s47, s48, s49, s50, s51, s52, _, _⟩, rfl, rfl, h0, h1, h2, h3, h4, h5, h6, h7, h8, h9, h10, h11, h12, h13, h14, h15, h16, h17, (fun _ => rfl), gW⟩
                case hdone =>
                  rintro ⟨b0, b1, b2, b3, b4, b5, b6, b7, b8, b9, b10, b11, b12, b13, b14, b15, b16, b17, b18, s36, s37, s38, s39, s40, s41, s42, s43, s44, s45, s46, s47, s48, s49, s50, s51, s52, s53, s54⟩ W hI hall
                  dsimp only at hI hall ⊢
                  have HI := Lib.hid hI
                  clear hI
                  obtain rfl : b18 = true := hall 18 (by decide)
                  obtain rfl := (HI.out.2.2.2.2.2.2.2.2.2.2.2.2.2.2.2.2.2.2.1) rfl
                  have gW := HI.out.2.2.2.2.2.2.2.2.2.2.2.2.2.2.2.2.2.2.2
                  clear HI hall
                  have GW := Lib.hid (HBw.out.trans (gW.mono HBw.out.size))
                  clear gW
                  go_wp2
                  go_ret
                  exact ⟨rfl, GW.out⟩
              | true =>
                have hz2 := of_decide_eq_true hq.symm
                clear hq
                have HZ2 := Lib.hid hz2
                clear hz2
                go_wp2_with fail
                go_region_held3 (fun w' => w'.cell? ⟨w.heap.size, 0, none⟩ = some (.slice a k ca) ∧ w'.cell? ⟨w.heap.size, 1, none⟩ = some (.slice (some ⟨b, off, none⟩) m c1) ∧ w'.cell? ⟨b, off + j * 2, none⟩ = some (.int .i64 z) ∧ w'.cell? ⟨b, off + j * 2 + 1, none⟩ = some (.slice va vn vc)) (first | go_keep | (refine ⟨kept (by assumption) hb, kept (by assumption) hb, kept (by assumption) hb, kept (by assumption) hb⟩)) (first
                  | (go_at_call 26; refine (refHas_any _ _ _ _ _ _ _ true HQ.out _).mono ?_; rintro e w2 ⟨rfl, hb⟩))
                have HB3 := Lib.hid (HBW.out.trans ((((Below.refl wr.heap.size wr).drew).trans hb).mono HBW.out.size))
                by_cases h5 : vn = 256
                · subst h5
                  go_wp2
                  go_roundw
                  case rel =>
                    refine ⟨j + 1, by omega, by go_num, all_take C j (0, []) (by rw [← HCm.out]; exact hlt) HA.out ?_, HB3.out⟩
                    have h8 := HZ2.out
                    rw [HZ.out, HSn.out] at h8
                    exact ⟨h8.1, h8.2, HV.out.symm⟩
                  case measure => simp [intOf]; omega
                · obtain rfl : r = false := by
                    rw [← HR.out]
                    refine chk_false fun h => h5 ?_
                    rw [HV.out]
                    exact (h.2.2.2 _ (getD_mem C j (0, []) (by rw [← HCm.out]; exact hlt))).2.2
                  have h6 : ¬ ((vn : Int) = 256) := by omega
                  go_wp2
                  go_ret
                  exact ⟨rfl, HB0.out.trans (HB3.out.mono HB0.out.size)⟩
            · obtain rfl : j = m := by omega
              obtain rfl : r = true := by
                rw [← HR.out]
                have h := HA.out
                rw [HCm.out, List.take_length] at h
                exact chk_true.2 ⟨by rw [← HSn.out]; exact h1, by rw [← HCm.out]; exact h2, HS.out, h⟩
              go_wp2
              go_ret
              exact ⟨rfl, HBw.out⟩
    · obtain rfl : r = false := by rw [← HR.out]; exact chk_false (fun h => h2 h.2.1)
      go_enter Try.func8, Try.ntmps8
      go_wp2
      go_ret
      exact ⟨rfl, (Below.refl _ _).alloc (Nat.le_refl _) _⟩
  · obtain rfl : r = false := by rw [← HR.out]; exact chk_false (fun h => h1 h.1)
    go_enter Try.func8, Try.ntmps8
    go_wp2
    go_ret
    exact ⟨rfl, (Below.refl _ _).alloc (Nat.le_refl _) _⟩

end Go.Proofs.Ytaamjpcpdlanhaa
