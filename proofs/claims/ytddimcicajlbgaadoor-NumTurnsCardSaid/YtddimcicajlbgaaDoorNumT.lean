/- The law NumTurns returns true for every input, where the listed variables of strconv hold what their initialisers lay. -/
import Derived.Test.YtddimcicajlbgaaDoorNumO
import Derived.Deep.RegionHeld3
namespace Go.Proofs.YtddimcicajlbgaaDoor
open Go.RowKit Go.Lib

set_option maxHeartbeats 2000000 in
/-- Outside its sizes the law looks at the examples alone. -/
theorem numTurns_out (n : Nat) (z f : Int) (w : World) (hL : Laid w) (h : z < 0 ∨ 8 < z ∨ f < 0 ∨ z < f) :
    Calls Tryd.prog 3 #[.int .u64 n, .int .i64 z, .int .i64 f] w fun e w' => e = .returned (.bool true) ∧ Below w.heap.size w w' := by
  by_cases h1 : z < 0
  · go_enter Tryd.func3, Tryd.ntmps3
    go_wp2_with (go_at_call 8; refine (heads_any _ hL).mono ?_; rintro e w' ⟨rfl, hb⟩)
    go_ret
    exact ⟨rfl, hb⟩
  · by_cases h2 : 8 < z
    · go_enter Tryd.func3, Tryd.ntmps3
      go_wp2_with (go_at_call 8; refine (heads_any _ hL).mono ?_; rintro e w' ⟨rfl, hb⟩)
      go_ret
      exact ⟨rfl, hb⟩
    · by_cases h3 : f < 0
      · go_enter Tryd.func3, Tryd.ntmps3
        go_wp2_with (go_at_call 8; refine (heads_any _ hL).mono ?_; rintro e w' ⟨rfl, hb⟩)
        go_ret
        exact ⟨rfl, hb⟩
      · have h4 : z < f := by omega
        go_enter Tryd.func3, Tryd.ntmps3
        go_wp2_with (go_at_call 8; refine (heads_any _ hL).mono ?_; rintro e w' ⟨rfl, hb⟩)
        go_ret
        exact ⟨rfl, hb⟩

set_option maxHeartbeats 1000000 in
theorem numTurns_in (n k j : Nat) (hk : k ≤ 8) (hj : j ≤ k) (w : World) (hL : Laid w) :
    Calls Tryd.prog 3 #[.int .u64 n, .int .i64 k, .int .i64 j] w fun e w' => e = .returned (.bool true) ∧ Below w.heap.size w w' := by
  go_enter Tryd.func3, Tryd.ntmps3
  go_wp2_with fail
  refine (le_row n k k (clamped_of k hk) _).mono ?_
  rintro e w1 ⟨g1, rfl, hr1, hg1, hb1⟩
  have HR1 := Lib.hid hr1; clear hr1
  go_wp2_with fail
  refine (be_row n k k (clamped_of k hk) _).mono ?_
  rintro e w2 ⟨g2, rfl, hr2, hg2, hb2⟩
  have HR2 := Lib.hid hr2; clear hr2
  have hs1 := (Array.getElem?_eq_some_iff.1 HR1.out).1
  have hs2 := (Array.getElem?_eq_some_iff.1 HR2.out).1
  have hz2 := hb2.size
  have hz1 := hb1.size
  go_wp2
  go_loopw [9] (fun c wr => ∃ i : Nat, i ≤ k ∧ c = .int .i64 i ∧ Below w2.heap.size w2 wr) (fun c _ => k - (RowKit.intOf c).toNat)
  case atStart => exact ⟨0, Nat.zero_le _, rfl, Below.refl _ _⟩
  case round =>
    obtain ⟨i, hi, rfl, hb3⟩ := hrel
    have hz3 := hb3.size
    by_cases hlt : i < k
    · obtain ⟨x, hx⟩ : ∃ x, x = (leB n k).getD i 0 := ⟨_, rfl⟩
      have hc1 : wr.cell? ⟨g1, i, none⟩ = some (.int .u8 x.toNat) := by
        rw [hb3.cell (by simp; omega), hb2.cell (by simpa using hs1), row_cell HR1.out (by simpa using hlt), hx]
      have hc2 : wr.cell? ⟨g2, k - 1 - i, none⟩ = some (.int .u8 x.toNat) := by
        rw [hb3.cell (by simpa using hs2), row_cell HR2.out (by simp; omega), turned n k i hlt, hx]
      clear hx
      have he : (k : Int) - 1 - (i : Int) = ((k - 1 - i : Nat) : Int) := by omega
      have He := Lib.hid he
      clear he
      go_wp2_with fail
      go_quiet (fail)
      go_wp2
      go_roundw
      case rel => exact ⟨i + 1, by omega, by go_num, hb3.trans ⟨rfl, rfl, rfl, Nat.le_refl _, fun _ _ => rfl⟩⟩
      case measure => simp [RowKit.intOf]; omega
    · obtain rfl : i = k := by omega
      have hL3 := ((hL.below hb1).below hb2).below hb3
      have hrow1 : wr.heap[g1]? = some (.cells (byteCells (leB n i)).toArray 5 (0, 0)) := by rw [hb3.block g1 (by omega), hb2.block g1 hs1]; exact HR1.out
      have hrow2 : wr.heap[g2]? = some (.cells (byteCells (beB n i)).toArray 5 (0, 0)) := by rw [hb3.block g2 hs2]; exact HR2.out
      have HB := Lib.hid ((hb1.trans (hb2.mono hb1.size)).trans (hb3.mono (Nat.le_trans hz1 hz2)))
      have R1 := Lib.hid hrow1
      have R2 := Lib.hid hrow2
      clear hrow1 hrow2 HR1 HR2 hb1 hb2 hb3
      have hi63 : i ≤ maxLen := by unfold maxLen; omega
      have hg1' : g1 < wr.heap.size := by omega
      have hg2' : g2 < wr.heap.size := by omega
      have hbz := HB.out.size
      have hLd : Laid wr.drew := hL3.below ⟨rfl, rfl, rfl, Nat.le_refl _, fun _ _ => rfl⟩
      obtain ⟨m, hm⟩ : ∃ m, m = i - j := ⟨_, rfl⟩
      have hm8 : m ≤ 8 := by omega
      have hmi : m ≤ i := by omega
      have hlen1 : 0 + j ≤ (leB n i).length := by simp; omega
      have hsl1 := slice_to (some ⟨g1, 0, none⟩) i i j hj
      obtain ⟨a2, c2, hsl2, hib⟩ : ∃ a2 c2, (∀ W, (Instr.slice 24 (.slice (some ⟨g2, 0, none⟩) i i) (some (.int .i64 (m : Int))) none none).run Tryd.prog W = .ok (.slice a2 j c2) W) ∧
          ∀ W : World, W.heap[g2]? = some (.cells (byteCells (beB n i)).toArray 5 (0, 0)) → IsBytes W (.slice a2 j c2) (beB n j) := by
        refine ⟨_, _, fun W => by rw [slice_from (some ⟨g2, 0, none⟩) i i m hmi W, show i - m = j by omega], fun W hW => ?_⟩
        rcases Nat.eq_zero_or_pos j with rfl | hjp
        · exact .inl ⟨_, _, rfl, by simp [beB, leB]⟩
        · rw [if_neg (by omega)]
          simp only [Option.map_some, Addr.add_lit, Nat.zero_add]
          exact isBytes_at hW (by rw [hm, beB_drop n i j hj, List.take_of_length_le (by simp)]) (by simp; omega) (Nat.le_refl _) (by unfold maxLen; omega)
      have HI := Lib.hid hib
      have hcl := clamped_of j (by omega)
      have hw := IntWalk.i64_in ((i : Int) - (j : Int)) (by omega)
      rw [show (i : Int) - (j : Int) = (m : Int) by omega] at hw
      have hw2 : IntKind.i64.wrap ((i : Int) - (j : Int)) = (m : Int) := by rw [show (i : Int) - (j : Int) = (m : Int) by omega]; exact hw
      clear hib hm hw
      have test : ∀ w0, (binOp .sub 3 (.int .i64 (i : Int)) (.int .i64 (j : Int))).run Tryd.prog w0 = .ok (.int .i64 (m : Int)) w0 := by intro w0; go_simp
      have H63 := Lib.hid hi63
      have Hlen1 := Lib.hid hlen1
      have Hg2 := Lib.hid hg2'
      have Hg1 := Lib.hid hg1'
      have HBZ := Lib.hid hbz
      clear hi63 hlen1 hg2' hg1' hbz hs1 hs2 hz1 hz2 hz3 hg1 hg2
      go_wp2_with fail
      go_region_held3 (fun _ => True) (first | exact trivial) (first
        | (go_at_call 9; refine (le_row n j j hcl _).mono ?_; rintro e w4 ⟨g4, rfl, hr4, hg4, hb4⟩; clear hg4; have R4 := Lib.hid hr4; clear hr4)
        | (go_at_call 10; refine (be_row n j j hcl _).mono ?_; rintro e w5 ⟨g5, rfl, hr5, hg5, hb5⟩; clear hg5; have R5 := Lib.hid hr5; clear hr5)
        | (go_at_call_of 11 (Value.slice (some ⟨g4, 0, none⟩) j j); refine (bytes_same _ _ (leB n j) _ (by exact isBytes_all R4.out (leB_length n j) (Nat.le_trans hj H63.out)) (by exact isBytes_at ((hb4.block g1 (by exact Hg1.out)).trans R1.out) (by rw [List.drop_zero, leB_take n i j hj]) Hlen1.out hj H63.out)).mono ?_; rintro e w7 ⟨rfl, rfl⟩)
        | (go_at_call_of 11 (Value.slice (some ⟨g5, 0, none⟩) j j); refine (bytes_same _ _ (beB n j) _ (by exact isBytes_all R5.out (beB_length n j) (Nat.le_trans hj H63.out)) (by exact HI.out _ ((hb5.block g2 (by exact Nat.lt_of_lt_of_le Hg2.out hb4.size)).trans ((hb4.block g2 (by exact Hg2.out)).trans R2.out)))).mono ?_; rintro e w7 ⟨rfl, rfl⟩)
        | (go_at_call 8; refine (heads_any _ (by exact (hLd.below hb4).below hb5)).mono ?_; rintro e w6 ⟨rfl, hb6⟩))
      go_wp2
      go_ret
      have z1 : w.heap.size ≤ wr.drew.heap.size := HB.out.size
      have z2 := Nat.le_trans z1 hb4.size
      have z3 := Nat.le_trans z2 hb5.size
      exact ⟨rfl, (((HB.out.drew).trans (hb4.mono z1)).trans (hb5.mono z2)).trans (hb6.mono z3)⟩

theorem numTurns_law (n : Nat) (_hn : n < 18446744073709551616) (z : Int) (_hz : -9223372036854775808 ≤ z ∧ z ≤ 9223372036854775807) (f : Int) (_hf : -9223372036854775808 ≤ f ∧ f ≤ 9223372036854775807) (w : World) (hL : Laid w) :
    Calls Tryd.prog 3 #[.int .u64 n, .int .i64 z, .int .i64 f] w fun e w' => e = .returned (.bool true) ∧ Below w.heap.size w w' := by
  by_cases h : z < 0 ∨ 8 < z ∨ f < 0 ∨ z < f
  · exact numTurns_out n z f w hL h
  · obtain ⟨k, rfl⟩ := Int.eq_ofNat_of_zero_le (show 0 ≤ z by omega)
    obtain ⟨j, rfl⟩ := Int.eq_ofNat_of_zero_le (show 0 ≤ f by omega)
    exact numTurns_in n k j (by omega) (by omega) w hL
end Go.Proofs.YtddimcicajlbgaaDoor
