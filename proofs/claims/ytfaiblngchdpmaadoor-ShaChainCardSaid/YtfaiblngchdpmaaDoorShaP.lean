/- What Pad answers, for every number of at most a million, and below 0. -/
import Derived.Test.YtfaiblngchdpmaaDoorShaM
import Derived.Test.YtfaiblngchdpmaaDoorNumHi
import Derived.Test.YtfaiblngchdpmaaDoorCat
import Derived.Test.YtfaiblngchdpmaaDoorInv
namespace Go.Proofs.YtfaiblngchdpmaaDoor
open Go.RowKit Go.Lib

set_option maxHeartbeats 400000 in
theorem pad_neg (z : Int) (h : z < 0) (w : World) : Calls Tryd.prog 13 #[.int .i64 z] w fun e w' => e = .returned (.slice none 0 0) ∧ w = w' := by
  go_enter Tryd.func13, Tryd.ntmps13
  go_wp2_with fail
  go_ret
  exact ⟨rfl, rfl⟩

set_option maxHeartbeats 2000000 in
theorem pad_any (n : Nat) (hn : n ≤ 1000000) (w : World) :
    Calls Tryd.prog 13 #[.int .i64 n] w fun e w' => ∃ v, e = .returned v ∧ w'.ownsRow w.heap.size 5 1 v (padOf n).length (byteCells (padOf n)) ∧ Below w.heap.size w w' := by
  have hnn : ¬ (n : Int) < 0 := by omega
  obtain ⟨k, hk⟩ : ∃ k, k = padZeros n := ⟨_, rfl⟩
  obtain ⟨z7, hz7⟩ : ∃ z7 : Int, z7 = (n : Int) % 64 := ⟨_, rfl⟩
  obtain ⟨z8, hz8⟩ : ∃ z8 : Int, z8 = 119 - (n : Int) % 64 := ⟨_, rfl⟩
  obtain ⟨z, hz⟩ : ∃ z : Int, z = (119 - (n : Int) % 64) % 64 := ⟨_, rfl⟩
  have hzk : z = (k : Int) := by rw [hz, hk]; unfold padZeros; omega
  have HK := Lib.hid (show k ≤ 63 by rw [hk]; unfold padZeros; omega)
  have HMK := Lib.hid (run_make_row' (P := Tryd.prog) 24 5 (.int .u8 0) 1 Tryd.underlying24 info8 rfl .i64 .i64 k (by have := HK.out; omega) (by have := HK.out; omega))
  have HC := Lib.hid (show IntKind.u64.wrap (n : Int) = (n : Int) from IntWalk.u64_in _ (by omega))
  have HM := Lib.hid (show IntKind.u64.wrap (8 * (n : Int)) = ((8 * n : Nat) : Int) by rw [wrap64u]; omega)
  have HPAD := Lib.hid (show [128] ++ List.replicate k 0 ++ beB (8 * n) 8 = padOf n by rw [hk]; simp [padOf])
  have HLEN := Lib.hid (show ([128] ++ List.replicate k 0 ++ beB (8 * n) 8).length ≤ 140737488355328 by have := HK.out; simp; omega)
  go_enter Tryd.func13, Tryd.ntmps13
  go_upto_region 4 with fail
  rw [← hz, ← hz8, ← hz7, hzk]
  clear hz hz8 hz7 hzk hk hnn
  refine wp_region_inv (by kernel_rfl) (by kernel_rfl) (fun ls a' W => ∃ (b0 b1 b2 b3 b4 b5 b6 b7 b8 b9 : Bool) (s10 s11 s12 s13 s14 s15 s16 s17 s18 s2 : Value), ls = #[b0, b1, b2, b3, b4, b5, b6, b7, b8, b9] ∧ a' = { tmps := #[.int .i64 n, undef, s2, .int .i64 k, .int .i64 n, .bool false, .int .i64 n, .int .i64 z7, .int .i64 z8, .int .i64 k, s10, s11, s12, s13, s14, s15, s16, s17, s18], defers := [] } ∧ (b1 = true → s11 = .int .i64 k) ∧ (b3 = true → s13 = .int .i64 n) ∧ (b4 = true → s14 = .int .u64 n) ∧ (b5 = true → s15 = .int .u64 ((8 * n : Nat) : Int)) ∧ (b0 = true → IsArg W s10 [128]) ∧ (b2 = true → IsArg W s12 (List.replicate k 0)) ∧ (b6 = true → IsArg W s16 (beB (8 * n) 8)) ∧ (b7 = true → (b0 = true ∧ b2 = true ∧ b6 = true) ∧ (b8 = false → ∃ g, s17 = .slice (some ⟨g, 0, none⟩) 3 3 ∧ W.cell? ⟨g, 0, none⟩ = some s10 ∧ W.cell? ⟨g, 1, none⟩ = some s12 ∧ W.cell? ⟨g, 2, none⟩ = some s16)) ∧ (b8 = true → b7 = true ∧ W.ownsRow w.heap.size 5 1 s18 (padOf n).length (byteCells (padOf n))) ∧ (b9 = true → b8 = true ∧ s2 = s18) ∧ (Below w.heap.size w W)) ?h0 ?hsz ?hstep ?hdone
  case h0 => exact ⟨false, false, false, false, false, false, false, false, false, false, undef, undef, undef, undef, undef, undef, undef, undef, undef, .slice none 0 0, rfl, rfl, (fun h => by cases h), (fun h => by cases h), (fun h => by cases h), (fun h => by cases h), (fun h => by cases h), (fun h => by cases h), (fun h => by cases h), (fun h => by cases h), (fun h => by cases h), (fun h => by cases h), (Below.refl _ _).drew⟩
  case hsz =>
    rintro ls a' W ⟨b0, b1, b2, b3, b4, b5, b6, b7, b8, b9, s10, s11, s12, s13, s14, s15, s16, s17, s18, s2, rfl, _⟩
    rfl
  case hstep =>
    rintro ls a' W ⟨b0, b1, b2, b3, b4, b5, b6, b7, b8, b9, s10, s11, s12, s13, s14, s15, s16, s17, s18, s2, rfl, rfl, h1, h3, h4, h5, g0, g2, g6, g7, g8, g9, gW⟩ i hi
    rw [Region.ready, List.mem_filter, List.mem_range] at hi
    obtain ⟨hlt, hp⟩ := hi
    have hi7 : i = 0 ∨ i = 1 ∨ i = 2 ∨ i = 3 ∨ i = 4 ∨ i = 5 ∨ i = 6 ∨ i = 7 ∨ i = 8 ∨ i = 9 := by simp at hlt; omega
    clear hlt
    rcases hi7 with rfl | rfl | rfl | rfl | rfl | rfl | rfl | rfl | rfl | rfl
    all_goals simp [Region.binds] at hp
    · have hn0 : b0 = false := by revert hp; cases b0 <;> simp
      clear hp
      subst hn0
      refine inv_op (o := ⟨some 10, _, _, _, _, _⟩) rfl (fun K' hK' => ?_)
      have e7f : b7 = false := by cases b7 with | false => rfl | true => exact absurd (g7 rfl).1.1 (by simp)
      have e8f : b8 = false := by cases b8 with | false => rfl | true => exact absurd (g8 rfl).1 (by rw [e7f]; simp)
      have e9f : b9 = false := by cases b9 with | false => rfl | true => exact absurd (g9 rfl).1 (by rw [e8f]; simp)
      go_simp
      have bn : Below W.heap.size W (W.alloc (.cells #[.int .u8 128] 5)) := (Below.refl _ _).alloc (Nat.le_refl _) _
      exact hK'.out _ _ ⟨true, b1, b2, b3, b4, b5, b6, b7, b8, b9, _, s11, s12, s13, s14, s15, s16, s17, s18, s2, rfl, rfl, h1, h3, h4, h5, (fun _ => isArg_new W _ _ _ [128] 1 rfl rfl (by decide)), (fun h => (g2 h).below bn), (fun h => (g6 h).below bn), (fun h => by rw [e7f] at h; cases h), (fun h => by rw [e8f] at h; cases h), (fun h => by rw [e9f] at h; cases h), (gW.trans (bn.mono gW.size))⟩
    · have hn1 : b1 = false := by revert hp; cases b1 <;> simp
      clear hp
      subst hn1
      refine inv_op (o := ⟨some 11, _, _, _, _, _⟩) rfl (fun K' hK' => ?_)
      go_simp
      exact hK'.out _ _ ⟨b0, true, b2, b3, b4, b5, b6, b7, b8, b9, s10, _, s12, s13, s14, s15, s16, s17, s18, s2, rfl, rfl, (fun _ => rfl), h3, h4, h5, g0, g2, g6, g7, g8, g9, gW⟩
    · have hn2 : b2 = false := by revert hp; cases b2 <;> simp
      have e1 : b1 = true := by revert hp; cases b1 <;> simp
      clear hp
      obtain rfl := h1 e1
      subst hn2
      refine inv_op (o := ⟨some 12, _, _, _, _, _⟩) rfl (fun K' hK' => ?_)
      have e7f : b7 = false := by cases b7 with | false => rfl | true => exact absurd (g7 rfl).1.2.1 (by simp)
      have e8f : b8 = false := by cases b8 with | false => rfl | true => exact absurd (g8 rfl).1 (by rw [e7f]; simp)
      have e9f : b9 = false := by cases b9 with | false => rfl | true => exact absurd (g9 rfl).1 (by rw [e8f]; simp)
      have hmk := HMK.out
      go_simp
      have bn : Below W.heap.size W (W.alloc (.cells (madeCells #[Value.int .u8 0] k) 5)) := (Below.refl _ _).alloc (Nat.le_refl _) _
      exact hK'.out _ _ ⟨b0, b1, true, b3, b4, b5, b6, b7, b8, b9, s10, _, _, s13, s14, s15, s16, s17, s18, s2, rfl, rfl, h1, h3, h4, h5, (fun h => (g0 h).below bn), (fun _ => isArg_new W _ _ _ (List.replicate k 0) k (by rw [made_zeros]; simp [zeros, byteCells]) (by simp) (by have := HK.out; unfold maxLen; omega)), (fun h => (g6 h).below bn), (fun h => by rw [e7f] at h; cases h), (fun h => by rw [e8f] at h; cases h), (fun h => by rw [e9f] at h; cases h), (gW.trans (bn.mono gW.size))⟩
    · have hn3 : b3 = false := by revert hp; cases b3 <;> simp
      clear hp
      subst hn3
      refine inv_op (o := ⟨some 13, _, _, _, _, _⟩) rfl (fun K' hK' => ?_)
      go_simp
      exact hK'.out _ _ ⟨b0, b1, b2, true, b4, b5, b6, b7, b8, b9, s10, s11, s12, _, s14, s15, s16, s17, s18, s2, rfl, rfl, h1, (fun _ => rfl), h4, h5, g0, g2, g6, g7, g8, g9, gW⟩
    · have hn4 : b4 = false := by revert hp; cases b4 <;> simp
      have e3 : b3 = true := by revert hp; cases b3 <;> simp
      clear hp
      obtain rfl := h3 e3
      subst hn4
      refine inv_op (o := ⟨some 14, _, _, _, _, _⟩) rfl (fun K' hK' => ?_)
      go_simp
      rw [HC.out]
      exact hK'.out _ _ ⟨b0, b1, b2, b3, true, b5, b6, b7, b8, b9, s10, s11, s12, _, _, s15, s16, s17, s18, s2, rfl, rfl, h1, h3, (fun _ => rfl), h5, g0, g2, g6, g7, g8, g9, gW⟩
    · have hn5 : b5 = false := by revert hp; cases b5 <;> simp
      have e4 : b4 = true := by revert hp; cases b4 <;> simp
      clear hp
      obtain rfl := h4 e4
      subst hn5
      refine inv_op (o := ⟨some 15, _, _, _, _, _⟩) rfl (fun K' hK' => ?_)
      go_simp
      rw [HM.out]
      exact hK'.out _ _ ⟨b0, b1, b2, b3, b4, true, b6, b7, b8, b9, s10, s11, s12, s13, _, _, s16, s17, s18, s2, rfl, rfl, h1, h3, h4, (fun _ => rfl), g0, g2, g6, g7, g8, g9, gW⟩
    · have hn6 : b6 = false := by revert hp; cases b6 <;> simp
      have e5 : b5 = true := by revert hp; cases b5 <;> simp
      clear hp
      obtain rfl := h5 e5
      subst hn6
      refine inv_op (o := ⟨some 16, _, _, _, _, _⟩) rfl (fun K' hK' => ?_)
      have e7f : b7 = false := by cases b7 with | false => rfl | true => exact absurd (g7 rfl).1.2.2 (by simp)
      have e8f : b8 = false := by cases b8 with | false => rfl | true => exact absurd (g8 rfl).1 (by rw [e7f]; simp)
      have e9f : b9 = false := by cases b9 with | false => rfl | true => exact absurd (g9 rfl).1 (by rw [e8f]; simp)
      go_simp
      refine (be_any (8 * n) 8 8 (clamped_of 8 (by decide)) W).mono ?_
      rintro e w1 ⟨r, rfl, ho, bn⟩
      have hr := isArg_of_owns (l := beB (8 * n) 8) (by rw [beB_length]; exact ho)
      exact hK'.out _ _ ⟨b0, b1, b2, b3, b4, b5, true, b7, b8, b9, s10, s11, s12, s13, s14, _, _, s17, s18, s2, rfl, rfl, h1, h3, h4, h5, (fun h => (g0 h).below bn), (fun h => (g2 h).below bn), (fun _ => hr), (fun h => by rw [e7f] at h; cases h), (fun h => by rw [e8f] at h; cases h), (fun h => by rw [e9f] at h; cases h), (gW.trans (bn.mono gW.size))⟩
    · have hn7 : b7 = false := by revert hp; cases b7 <;> simp
      have e0 : b0 = true := by revert hp; cases b0 <;> simp
      have e2 : b2 = true := by revert hp; cases b2 <;> simp
      have e6 : b6 = true := by revert hp; cases b6 <;> simp
      clear hp
      subst hn7
      refine inv_op (o := ⟨some 17, _, _, _, _, _⟩) rfl (fun K' hK' => ?_)
      have e8f : b8 = false := by cases b8 with | false => rfl | true => exact absurd (g8 rfl).1 (by simp)
      have e9f : b9 = false := by cases b9 with | false => rfl | true => exact absurd (g9 rfl).1 (by rw [e8f]; simp)
      obtain ⟨a10, c10, rfl⟩ := (g0 e0).1.shape
      obtain ⟨a12, c12, rfl⟩ := (g2 e2).1.shape
      obtain ⟨a16, c16, rfl⟩ := (g6 e6).1.shape
      generalize ([128] : List UInt8).length = m10 at *
      generalize (List.replicate k (0 : UInt8)).length = m12 at *
      generalize (beB (8 * n) 8).length = m16 at *
      go_simp
      have bn : Below W.heap.size W (W.alloc (.cells #[.slice a10 m10 c10, .slice a12 m12 c12, .slice a16 m16 c16] 24)) := (Below.refl _ _).alloc (Nat.le_refl _) _
      have hnw := heap_alloc_new W (.cells #[.slice a10 m10 c10, .slice a12 m12 c12, .slice a16 m16 c16] 24)
      exact hK'.out _ _ ⟨b0, b1, b2, b3, b4, b5, b6, true, b8, b9, _, s11, _, s13, s14, s15, _, _, s18, s2, rfl, rfl, h1, h3, h4, h5, (fun h => (g0 h).below bn), (fun h => (g2 h).below bn), (fun h => (g6 h).below bn), (fun _ => ⟨⟨e0, e2, e6⟩, fun _ => ⟨W.heap.size, rfl, cell_of_row _ _ 0 _ _ _ hnw, cell_of_row _ _ 1 _ _ _ hnw, cell_of_row _ _ 2 _ _ _ hnw⟩⟩), (fun h => by rw [e8f] at h; cases h), (fun h => by rw [e9f] at h; cases h), (gW.trans (bn.mono gW.size))⟩
    · have hn8 : b8 = false := by revert hp; cases b8 <;> simp
      have e7 : b7 = true := by revert hp; cases b7 <;> simp
      clear hp
      subst hn8
      refine inv_op (o := ⟨some 18, _, _, _, _, _⟩) rfl (fun K' hK' => ?_)
      have e9f : b9 = false := by cases b9 with | false => rfl | true => exact absurd (g9 rfl).1 (by simp)
      obtain ⟨⟨e0, e2, e6⟩, hex⟩ := g7 e7
      obtain ⟨g, rfl, c0, c1, c2⟩ := hex rfl
      go_simp
      refine (concat_three c0 c1 c2 (g0 e0) (g2 e2) (g6 e6) HLEN.out).mono ?_
      rintro e w1 ⟨r, rfl, ho, bn⟩
      rw [HPAD.out] at ho
      exact hK'.out _ _ ⟨b0, b1, b2, b3, b4, b5, b6, b7, true, b9, s10, s11, s12, s13, s14, s15, s16, _, _, s2, rfl, rfl, h1, h3, h4, h5, (fun h => (g0 h).below bn), (fun h => (g2 h).below bn), (fun h => (g6 h).below bn), (fun _ => ⟨⟨e0, e2, e6⟩, fun h => by cases h⟩), (fun _ => ⟨e7, ownsRow_base ho gW.size⟩), (fun h => by rw [e9f] at h; cases h), (gW.trans (bn.mono gW.size))⟩
    · have hn9 : b9 = false := by revert hp; cases b9 <;> simp
      have e8 : b8 = true := by revert hp; cases b8 <;> simp
      clear hp
      subst hn9
      refine inv_op (o := ⟨some 2, _, _, _, _, _⟩) rfl (fun K' hK' => ?_)
      go_simp
      exact hK'.out _ _ ⟨b0, b1, b2, b3, b4, b5, b6, b7, b8, true, s10, s11, s12, s13, s14, s15, s16, s17, _, _, rfl, rfl, h1, h3, h4, h5, g0, g2, g6, g7, g8, (fun _ => ⟨e8, rfl⟩), gW⟩
  case hdone =>
    rintro ls a' W ⟨b0, b1, b2, b3, b4, b5, b6, b7, b8, b9, s10, s11, s12, s13, s14, s15, s16, s17, s18, s2, rfl, rfl, h1, h3, h4, h5, g0, g2, g6, g7, g8, g9, gW⟩ hall
    obtain rfl : b9 = true := hall 9 (by decide)
    obtain ⟨h8, rfl⟩ := g9 rfl
    have hfin := (g8 h8).2
    have HFIN := Lib.hid hfin
    have HW := Lib.hid gW
    clear hfin gW g0 g2 g6 g7 g8 g9 h1 h3 h4 h5 hall
    go_wp2
    go_ret
    exact ⟨_, rfl, HFIN.out, HW.out⟩
end Go.Proofs.YtfaiblngchdpmaaDoor
