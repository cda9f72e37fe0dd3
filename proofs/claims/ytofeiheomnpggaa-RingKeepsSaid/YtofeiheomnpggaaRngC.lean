/- What a ring's Check, its faults, and the document's Check answer. -/
import Derived.Test.YtofeiheomnpggaaRngB
import Derived.Test.YtofeiheomnpggaaInv
namespace Go.Proofs.Ytofeiheomnpggaa
open Go.RowKit Go.Lib

/-- The box of an argument, in every world behind. -/
theorem mem_box (w : World) (a : Option Addr) (n c : Nat) : ∀ W, Below (w.alloc (.cells #[.slice a n c] 28)).heap.size (w.alloc (.cells #[.slice a n c] 28)) W → W.cell? ⟨w.heap.size, 0, none⟩ = some (.slice a n c) ∧ W.frozen? ⟨w.heap.size, 0, none⟩ = false := fun _ h => one_cell (row_keep (heap_alloc_new w _) h)
structure RngCheck2 where
  b0 : Bool
  b1 : Bool
  b2 : Bool
  b3 : Bool
  b4 : Bool
  b5 : Bool
  b6 : Bool
  b7 : Bool
  b8 : Bool
  b9 : Bool
  b10 : Bool
  b11 : Bool
  b12 : Bool
  b13 : Bool
  b14 : Bool
  b15 : Bool
  b16 : Bool
  b17 : Bool
  b18 : Bool
  b19 : Bool
  b20 : Bool
  s7 : Value
  s8 : Value
  s9 : Value
  s10 : Value
  s11 : Value
  s12 : Value
  s13 : Value
  s14 : Value
  s15 : Value
  s16 : Value
  s17 : Value
  s18 : Value
  s19 : Value
  s20 : Value
  s21 : Value
  s22 : Value
  s23 : Value
  s24 : Value
  s25 : Value
  s26 : Value
  s6 : Value
structure RngCheck4 where
  b0 : Bool
  b1 : Bool
  b2 : Bool
  b3 : Bool
  b4 : Bool
  b5 : Bool
  b6 : Bool
  b7 : Bool
  b8 : Bool
  b9 : Bool
  b10 : Bool
  b11 : Bool
  b12 : Bool
  b13 : Bool
  b14 : Bool
  b15 : Bool
  b16 : Bool
  b17 : Bool
  b18 : Bool
  b19 : Bool
  b20 : Bool
  s7 : Value
  s8 : Value
  s9 : Value
  s10 : Value
  s11 : Value
  s12 : Value
  s13 : Value
  s14 : Value
  s15 : Value
  s16 : Value
  s17 : Value
  s18 : Value
  s19 : Value
  s20 : Value
  s21 : Value
  s22 : Value
  s23 : Value
  s24 : Value
  s25 : Value
  s26 : Value
  s6 : Value
structure RngCheck3 where
  b0 : Bool
  b1 : Bool
  b2 : Bool
  b3 : Bool
  b4 : Bool
  b5 : Bool
  b6 : Bool
  b7 : Bool
  b8 : Bool
  b9 : Bool
  b10 : Bool
  b11 : Bool
  b12 : Bool
  b13 : Bool
  b14 : Bool
  b15 : Bool
  b16 : Bool
  b17 : Bool
  b18 : Bool
  b19 : Bool
  b20 : Bool
  s7 : Value
  s8 : Value
  s9 : Value
  s10 : Value
  s11 : Value
  s12 : Value
  s13 : Value
  s14 : Value
  s15 : Value
  s16 : Value
  s17 : Value
  s18 : Value
  s19 : Value
  s20 : Value
  s21 : Value
  s22 : Value
  s23 : Value
  s24 : Value
  s25 : Value
  s26 : Value
  s6 : Value
structure RngCheck1 where
  b0 : Bool
  b1 : Bool
  b2 : Bool
  b3 : Bool
  b4 : Bool
  b5 : Bool
  b6 : Bool
  b7 : Bool
  b8 : Bool
  b9 : Bool
  b10 : Bool
  b11 : Bool
  b12 : Bool
  b13 : Bool
  b14 : Bool
  b15 : Bool
  b16 : Bool
  b17 : Bool
  b18 : Bool
  b19 : Bool
  b20 : Bool
  s7 : Value
  s8 : Value
  s9 : Value
  s10 : Value
  s11 : Value
  s12 : Value
  s13 : Value
  s14 : Value
  s15 : Value
  s16 : Value
  s17 : Value
  s18 : Value
  s19 : Value
  s20 : Value
  s21 : Value
  s22 : Value
  s23 : Value
  s24 : Value
  s25 : Value
  s26 : Value
  s6 : Value
structure RefRngCheck2 where
  b0 : Bool
  b1 : Bool
  b2 : Bool
  b3 : Bool
  b4 : Bool
  b5 : Bool
  b6 : Bool
  b7 : Bool
  b8 : Bool
  b9 : Bool
  b10 : Bool
  b11 : Bool
  b12 : Bool
  b13 : Bool
  s7 : Value
  s8 : Value
  s9 : Value
  s10 : Value
  s11 : Value
  s12 : Value
  s13 : Value
  s14 : Value
  s15 : Value
  s16 : Value
  s17 : Value
  s18 : Value
  s19 : Value
  s6 : Value
structure RefRngCheck3 where
  b0 : Bool
  b1 : Bool
  b2 : Bool
  b3 : Bool
  b4 : Bool
  b5 : Bool
  b6 : Bool
  b7 : Bool
  b8 : Bool
  b9 : Bool
  b10 : Bool
  b11 : Bool
  b12 : Bool
  b13 : Bool
  s7 : Value
  s8 : Value
  s9 : Value
  s10 : Value
  s11 : Value
  s12 : Value
  s13 : Value
  s14 : Value
  s15 : Value
  s16 : Value
  s17 : Value
  s18 : Value
  s19 : Value
  s6 : Value
structure RefRngCheck1 where
  b0 : Bool
  b1 : Bool
  b2 : Bool
  b3 : Bool
  b4 : Bool
  b5 : Bool
  b6 : Bool
  b7 : Bool
  b8 : Bool
  b9 : Bool
  b10 : Bool
  b11 : Bool
  b12 : Bool
  b13 : Bool
  s7 : Value
  s8 : Value
  s9 : Value
  s10 : Value
  s11 : Value
  s12 : Value
  s13 : Value
  s14 : Value
  s15 : Value
  s16 : Value
  s17 : Value
  s18 : Value
  s19 : Value
  s6 : Value

set_option maxHeartbeats 4000000 in
set_option maxRecDepth 100000 in
theorem ringCheck_any (a : Option Addr) (n c : Nat) (hn : n ≤ maxLen) (b z : Int) (r : Bool) (hr : okR n b z = r) (w : World) :
    Calls Try.prog 27 #[.agg #[.slice a n c], .int .i64 b, .int .i64 z] w fun e w' => e = .returned (.bool r) ∧ Below w.heap.size w w' := by
  unfold maxLen at hn
  have HB := Lib.hid ((Below.refl w.heap.size w).alloc (Nat.le_refl _) (.cells #[.slice a n c] 28))
  have HM := Lib.hid (mem_box w a n c)
  have hn9 : n ≤ maxLen := by unfold maxLen; omega
  have HN := Lib.hid hn9
  clear hn9
  by_cases h1 : n ≤ 8192
  · cases h2 : rightB z with
    | false =>
      obtain rfl : r = false := by rw [← hr, okR, h2, Bool.false_and, Bool.and_false]
      have hd := decide_eq_true h1
      have HC := Lib.hid (show ∀ W, Below (w.alloc (.cells #[.slice a n c] 28)).heap.size (w.alloc (.cells #[.slice a n c] 28)) W → Calls Try.prog 48 #[.agg #[.slice a n c]] W fun e w' => e = .returned (.bool true) ∧ Below W.heap.size W w' from fun W _ => check_any a n c HN.out true (by rw [hd]) W)
      have HS := Lib.hid (show ∀ W, Calls Try.prog 29 #[.int .i64 z] W fun e w' => e = .returned (.bool false) ∧ w' = W from fun W => isSize_any z false h2 W)
      clear hr h1 h2 hn hd
      go_enter Try.func27, Try.ntmps27
      go_wp2_with fail
      refine wp_region_rec (X := RngCheck2) (by kernel_rfl) (by kernel_rfl) (fun x => #[x.b0, x.b1, x.b2, x.b3, x.b4, x.b5, x.b6, x.b7, x.b8, x.b9, x.b10, x.b11, x.b12, x.b13, x.b14, x.b15, x.b16, x.b17, x.b18, x.b19, x.b20]) (fun x => { tmps := #[.agg #[.slice a n c], .int .i64 b, .int .i64 z, .pointer (some ⟨w.heap.size, 0, none⟩), undef, undef, x.s6, x.s7, x.s8, x.s9, x.s10, x.s11, x.s12, x.s13, x.s14, x.s15, x.s16, x.s17, x.s18, x.s19, x.s20, x.s21, x.s22, x.s23, x.s24, x.s25, x.s26], defers := [] }) (fun x W => (x.b0 = true → x.s7 = .agg #[.slice a n c]) ∧ (x.b1 = true → x.s8 = .bool true) ∧ (x.b2 = true → x.s9 = .bool true) ∧ (x.b3 = true → x.s10 = .int .i64 z) ∧ (x.b4 = true → x.s11 = .bool false) ∧ (x.b5 = true → x.s12 = .bool false) ∧ (x.b6 = true → x.s13 = .bool false) ∧ (x.b7 = true → x.s14 = undef) ∧ (x.b8 = true → x.s15 = undef) ∧ (x.b9 = true → x.s16 = .bool false) ∧ (x.b10 = true → x.s17 = .bool false) ∧ (x.b11 = true → x.s18 = undef) ∧ (x.b12 = true → x.s19 = undef) ∧ (x.b13 = true → x.s20 = undef) ∧ (x.b14 = true → x.s21 = undef) ∧ (x.b15 = true → x.s22 = undef) ∧ (x.b16 = true → x.s23 = undef) ∧ (x.b17 = true → x.s24 = undef) ∧ (x.b18 = true → x.s25 = undef) ∧ (x.b19 = true → x.s26 = .bool false) ∧ (x.b20 = true → x.s6 = .bool false) ∧ (Below (w.alloc (.cells #[.slice a n c] 28)).heap.size (w.alloc (.cells #[.slice a n c] 28)) W)) ⟨false, false, false, false, false, false, false, false, false, false, false, false, false, false, false, false, false, false, false, false, false, undef, undef, undef, undef, undef, undef, undef, undef, undef, undef, undef, undef, undef, undef, undef, undef, undef, undef, undef, undef, .bool false⟩ rfl rfl ⟨(fun h => by cases h), (fun h => by cases h), (fun h => by cases h), (fun h => by cases h), (fun h => by cases h), (fun h => by cases h), (fun h => by cases h), (fun h => by cases h), (fun h => by cases h), (fun h => by cases h), (fun h => by cases h), (fun h => by cases h), (fun h => by cases h), (fun h => by cases h), (fun h => by cases h), (fun h => by cases h), (fun h => by cases h), (fun h => by cases h), (fun h => by cases h), (fun h => by cases h), (fun h => by cases h), (Below.refl _ _).drew⟩ (fun _ => rfl) ?hstep ?hdone
      case hstep =>
        rintro ⟨b0, b1, b2, b3, b4, b5, b6, b7, b8, b9, b10, b11, b12, b13, b14, b15, b16, b17, b18, b19, b20, s7, s8, s9, s10, s11, s12, s13, s14, s15, s16, s17, s18, s19, s20, s21, s22, s23, s24, s25, s26, s6⟩ W hI i hi
        dsimp only at hI hi ⊢
        have HI := Lib.hid hI
        clear hI
        rw [Region.ready, List.mem_filter, List.mem_range] at hi
        obtain ⟨hlt, hp⟩ := hi
        have hi7 : i = 0 ∨ i = 1 ∨ i = 2 ∨ i = 3 ∨ i = 4 ∨ i = 5 ∨ i = 6 ∨ i = 7 ∨ i = 8 ∨ i = 9 ∨ i = 10 ∨ i = 11 ∨ i = 12 ∨ i = 13 ∨ i = 14 ∨ i = 15 ∨ i = 16 ∨ i = 17 ∨ i = 18 ∨ i = 19 ∨ i = 20 := by simp at hlt; omega
        clear hlt
        rcases hi7 with rfl | rfl | rfl | rfl | rfl | rfl | rfl | rfl | rfl | rfl | rfl | rfl | rfl | rfl | rfl | rfl | rfl | rfl | rfl | rfl | rfl
        all_goals simp [Region.binds] at hp
        · have hn0 : b0 = false := by revert hp; cases b0 <;> simp
          clear hp
          subst hn0
          refine inv_op (o := ⟨some 7, _, _, _, _, _⟩) rfl (fun K' hK' => ?_)
          have gW := HI.out.2.2.2.2.2.2.2.2.2.2.2.2.2.2.2.2.2.2.2.2.2
          obtain ⟨hc1, hc2⟩ := HM.out W gW
          go_simp
          obtain ⟨h0, h1, h2, h3, h4, h5, h6, h7, h8, h9, h10, h11, h12, h13, h14, h15, h16, h17, h18, h19, h20, gW⟩ := HI.out
          exact hK'.out _ _ ⟨⟨true, b1, b2, b3, b4, b5, b6, b7, b8, b9, b10, b11, b12, b13, b14, b15, b16, b17, b18, b19, b20, _, s8, s9, s10, s11, s12, s13, s14, s15, s16, s17, s18, s19, s20, s21, s22, s23, s24, s25, s26, s6⟩, rfl, rfl, (fun _ => rfl), h1, h2, h3, h4, h5, h6, h7, h8, h9, h10, h11, h12, h13, h14, h15, h16, h17, h18, h19, h20, gW⟩
        · have hn1 : b1 = false := by revert hp; cases b1 <;> simp
          have e0 : b0 = true := by revert hp; cases b0 <;> simp
          clear hp
          obtain rfl := (HI.out.1) e0
          subst hn1
          refine inv_op (o := ⟨some 8, _, _, _, _, _⟩) rfl (fun K' hK' => ?_)
          have gW := HI.out.2.2.2.2.2.2.2.2.2.2.2.2.2.2.2.2.2.2.2.2.2
          go_simp
          refine (HC.out W gW).mono ?_
          rintro e w1 ⟨rfl, bn⟩
          obtain ⟨h0, h1, h2, h3, h4, h5, h6, h7, h8, h9, h10, h11, h12, h13, h14, h15, h16, h17, h18, h19, h20, gW⟩ := HI.out
          exact hK'.out _ _ ⟨⟨b0, true, b2, b3, b4, b5, b6, b7, b8, b9, b10, b11, b12, b13, b14, b15, b16, b17, b18, b19, b20, _, _, s9, s10, s11, s12, s13, s14, s15, s16, s17, s18, s19, s20, s21, s22, s23, s24, s25, s26, s6⟩, rfl, rfl, h0, (fun _ => rfl), h2, h3, h4, h5, h6, h7, h8, h9, h10, h11, h12, h13, h14, h15, h16, h17, h18, h19, h20, (gW.trans (bn.mono gW.size))⟩
        · have hn2 : b2 = false := by revert hp; cases b2 <;> simp
          have e1 : b1 = true := by revert hp; cases b1 <;> simp
          clear hp
          obtain rfl := (HI.out.2.1) e1
          subst hn2
          refine inv_op (o := ⟨some 9, _, _, _, _, _⟩) rfl (fun K' hK' => ?_)
          go_simp
          obtain ⟨h0, h1, h2, h3, h4, h5, h6, h7, h8, h9, h10, h11, h12, h13, h14, h15, h16, h17, h18, h19, h20, gW⟩ := HI.out
          exact hK'.out _ _ ⟨⟨b0, b1, true, b3, b4, b5, b6, b7, b8, b9, b10, b11, b12, b13, b14, b15, b16, b17, b18, b19, b20, s7, _, _, s10, s11, s12, s13, s14, s15, s16, s17, s18, s19, s20, s21, s22, s23, s24, s25, s26, s6⟩, rfl, rfl, h0, h1, (fun _ => rfl), h3, h4, h5, h6, h7, h8, h9, h10, h11, h12, h13, h14, h15, h16, h17, h18, h19, h20, gW⟩
        · have hn3 : b3 = false := by revert hp; cases b3 <;> simp
          have e2 : b2 = true := by revert hp; cases b2 <;> simp
          clear hp
          obtain rfl := (HI.out.2.2.1) e2
          subst hn3
          refine inv_op (o := ⟨some 10, _, _, _, _, _⟩) rfl (fun K' hK' => ?_)
          go_simp
          obtain ⟨h0, h1, h2, h3, h4, h5, h6, h7, h8, h9, h10, h11, h12, h13, h14, h15, h16, h17, h18, h19, h20, gW⟩ := HI.out
          exact hK'.out _ _ ⟨⟨b0, b1, b2, true, b4, b5, b6, b7, b8, b9, b10, b11, b12, b13, b14, b15, b16, b17, b18, b19, b20, s7, s8, _, _, s11, s12, s13, s14, s15, s16, s17, s18, s19, s20, s21, s22, s23, s24, s25, s26, s6⟩, rfl, rfl, h0, h1, h2, (fun _ => rfl), h4, h5, h6, h7, h8, h9, h10, h11, h12, h13, h14, h15, h16, h17, h18, h19, h20, gW⟩
        · have hn4 : b4 = false := by revert hp; cases b4 <;> simp
          have e3 : b3 = true := by revert hp; cases b3 <;> simp
          have e2 : b2 = true := by revert hp; cases b2 <;> simp
          clear hp
          obtain rfl := (HI.out.2.2.2.1) e3
          obtain rfl := (HI.out.2.2.1) e2
          subst hn4
          refine inv_op (o := ⟨some 11, _, _, _, _, _⟩) rfl (fun K' hK' => ?_)
          go_simp
          refine (HS.out W).mono ?_
          rintro e w1 ⟨rfl, rfl⟩
          obtain ⟨h0, h1, h2, h3, h4, h5, h6, h7, h8, h9, h10, h11, h12, h13, h14, h15, h16, h17, h18, h19, h20, gW⟩ := HI.out
          exact hK'.out _ _ ⟨⟨b0, b1, b2, b3, true, b5, b6, b7, b8, b9, b10, b11, b12, b13, b14, b15, b16, b17, b18, b19, b20, s7, s8, _, _, _, s12, s13, s14, s15, s16, s17, s18, s19, s20, s21, s22, s23, s24, s25, s26, s6⟩, rfl, rfl, h0, h1, h2, h3, (fun _ => rfl), h5, h6, h7, h8, h9, h10, h11, h12, h13, h14, h15, h16, h17, h18, h19, h20, gW⟩
        · have hn5 : b5 = false := by revert hp; cases b5 <;> simp
          have e2 : b2 = true := by revert hp; cases b2 <;> simp
          have e4 : b4 = true := by revert hp; cases b4 <;> simp
          clear hp
          obtain rfl := (HI.out.2.2.1) e2
          obtain rfl := (HI.out.2.2.2.2.1) e4
          subst hn5
          refine inv_op (o := ⟨some 12, _, _, _, _, _⟩) rfl (fun K' hK' => ?_)
          go_simp
          obtain ⟨h0, h1, h2, h3, h4, h5, h6, h7, h8, h9, h10, h11, h12, h13, h14, h15, h16, h17, h18, h19, h20, gW⟩ := HI.out
          exact hK'.out _ _ ⟨⟨b0, b1, b2, b3, b4, true, b6, b7, b8, b9, b10, b11, b12, b13, b14, b15, b16, b17, b18, b19, b20, s7, s8, _, s10, _, _, s13, s14, s15, s16, s17, s18, s19, s20, s21, s22, s23, s24, s25, s26, s6⟩, rfl, rfl, h0, h1, h2, h3, h4, (fun _ => rfl), h6, h7, h8, h9, h10, h11, h12, h13, h14, h15, h16, h17, h18, h19, h20, gW⟩
        · have hn6 : b6 = false := by revert hp; cases b6 <;> simp
          have e5 : b5 = true := by revert hp; cases b5 <;> simp
          clear hp
          obtain rfl := (HI.out.2.2.2.2.2.1) e5
          subst hn6
          refine inv_op (o := ⟨some 13, _, _, _, _, _⟩) rfl (fun K' hK' => ?_)
          go_simp
          obtain ⟨h0, h1, h2, h3, h4, h5, h6, h7, h8, h9, h10, h11, h12, h13, h14, h15, h16, h17, h18, h19, h20, gW⟩ := HI.out
          exact hK'.out _ _ ⟨⟨b0, b1, b2, b3, b4, b5, true, b7, b8, b9, b10, b11, b12, b13, b14, b15, b16, b17, b18, b19, b20, s7, s8, s9, s10, s11, _, _, s14, s15, s16, s17, s18, s19, s20, s21, s22, s23, s24, s25, s26, s6⟩, rfl, rfl, h0, h1, h2, h3, h4, h5, (fun _ => rfl), h7, h8, h9, h10, h11, h12, h13, h14, h15, h16, h17, h18, h19, h20, gW⟩
        · have hn7 : b7 = false := by revert hp; cases b7 <;> simp
          have e6 : b6 = true := by revert hp; cases b6 <;> simp
          clear hp
          obtain rfl := (HI.out.2.2.2.2.2.2.1) e6
          subst hn7
          refine inv_op (o := ⟨some 14, _, _, _, _, _⟩) rfl (fun K' hK' => ?_)
          go_simp
          obtain ⟨h0, h1, h2, h3, h4, h5, h6, h7, h8, h9, h10, h11, h12, h13, h14, h15, h16, h17, h18, h19, h20, gW⟩ := HI.out
          exact hK'.out _ _ ⟨⟨b0, b1, b2, b3, b4, b5, b6, true, b8, b9, b10, b11, b12, b13, b14, b15, b16, b17, b18, b19, b20, s7, s8, s9, s10, s11, s12, _, _, s15, s16, s17, s18, s19, s20, s21, s22, s23, s24, s25, s26, s6⟩, rfl, rfl, h0, h1, h2, h3, h4, h5, h6, (fun _ => rfl), h8, h9, h10, h11, h12, h13, h14, h15, h16, h17, h18, h19, h20, gW⟩
        · have hn8 : b8 = false := by revert hp; cases b8 <;> simp
          have e7 : b7 = true := by revert hp; cases b7 <;> simp
          have e6 : b6 = true := by revert hp; cases b6 <;> simp
          clear hp
          obtain rfl := (HI.out.2.2.2.2.2.2.2.1) e7
          obtain rfl := (HI.out.2.2.2.2.2.2.1) e6
          subst hn8
          refine inv_op (o := ⟨some 15, _, _, _, _, _⟩) rfl (fun K' hK' => ?_)
          go_simp
          obtain ⟨h0, h1, h2, h3, h4, h5, h6, h7, h8, h9, h10, h11, h12, h13, h14, h15, h16, h17, h18, h19, h20, gW⟩ := HI.out
          exact hK'.out _ _ ⟨⟨b0, b1, b2, b3, b4, b5, b6, b7, true, b9, b10, b11, b12, b13, b14, b15, b16, b17, b18, b19, b20, s7, s8, s9, s10, s11, s12, _, _, _, s16, s17, s18, s19, s20, s21, s22, s23, s24, s25, s26, s6⟩, rfl, rfl, h0, h1, h2, h3, h4, h5, h6, h7, (fun _ => rfl), h9, h10, h11, h12, h13, h14, h15, h16, h17, h18, h19, h20, gW⟩
        · have hn9 : b9 = false := by revert hp; cases b9 <;> simp
          have e6 : b6 = true := by revert hp; cases b6 <;> simp
          have e8 : b8 = true := by revert hp; cases b8 <;> simp
          clear hp
          obtain rfl := (HI.out.2.2.2.2.2.2.1) e6
          obtain rfl := (HI.out.2.2.2.2.2.2.2.2.1) e8
          subst hn9
          refine inv_op (o := ⟨some 16, _, _, _, _, _⟩) rfl (fun K' hK' => ?_)
          go_simp
          obtain ⟨h0, h1, h2, h3, h4, h5, h6, h7, h8, h9, h10, h11, h12, h13, h14, h15, h16, h17, h18, h19, h20, gW⟩ := HI.out
          exact hK'.out _ _ ⟨⟨b0, b1, b2, b3, b4, b5, b6, b7, b8, true, b10, b11, b12, b13, b14, b15, b16, b17, b18, b19, b20, s7, s8, s9, s10, s11, s12, _, s14, _, _, s17, s18, s19, s20, s21, s22, s23, s24, s25, s26, s6⟩, rfl, rfl, h0, h1, h2, h3, h4, h5, h6, h7, h8, (fun _ => rfl), h10, h11, h12, h13, h14, h15, h16, h17, h18, h19, h20, gW⟩
        · have hn10 : b10 = false := by revert hp; cases b10 <;> simp
          have e9 : b9 = true := by revert hp; cases b9 <;> simp
          clear hp
          obtain rfl := (HI.out.2.2.2.2.2.2.2.2.2.1) e9
          subst hn10
          refine inv_op (o := ⟨some 17, _, _, _, _, _⟩) rfl (fun K' hK' => ?_)
          go_simp
          obtain ⟨h0, h1, h2, h3, h4, h5, h6, h7, h8, h9, h10, h11, h12, h13, h14, h15, h16, h17, h18, h19, h20, gW⟩ := HI.out
          exact hK'.out _ _ ⟨⟨b0, b1, b2, b3, b4, b5, b6, b7, b8, b9, true, b11, b12, b13, b14, b15, b16, b17, b18, b19, b20, s7, s8, s9, s10, s11, s12, s13, s14, s15, _, _, s18, s19, s20, s21, s22, s23, s24, s25, s26, s6⟩, rfl, rfl, h0, h1, h2, h3, h4, h5, h6, h7, h8, h9, (fun _ => rfl), h11, h12, h13, h14, h15, h16, h17, h18, h19, h20, gW⟩
        · have hn11 : b11 = false := by revert hp; cases b11 <;> simp
          have e10 : b10 = true := by revert hp; cases b10 <;> simp
          clear hp
          obtain rfl := (HI.out.2.2.2.2.2.2.2.2.2.2.1) e10
          subst hn11
          refine inv_op (o := ⟨some 18, _, _, _, _, _⟩) rfl (fun K' hK' => ?_)
          go_simp
          obtain ⟨h0, h1, h2, h3, h4, h5, h6, h7, h8, h9, h10, h11, h12, h13, h14, h15, h16, h17, h18, h19, h20, gW⟩ := HI.out
          exact hK'.out _ _ ⟨⟨b0, b1, b2, b3, b4, b5, b6, b7, b8, b9, b10, true, b12, b13, b14, b15, b16, b17, b18, b19, b20, s7, s8, s9, s10, s11, s12, s13, s14, s15, s16, _, _, s19, s20, s21, s22, s23, s24, s25, s26, s6⟩, rfl, rfl, h0, h1, h2, h3, h4, h5, h6, h7, h8, h9, h10, (fun _ => rfl), h12, h13, h14, h15, h16, h17, h18, h19, h20, gW⟩
        · have hn12 : b12 = false := by revert hp; cases b12 <;> simp
          have e10 : b10 = true := by revert hp; cases b10 <;> simp
          clear hp
          obtain rfl := (HI.out.2.2.2.2.2.2.2.2.2.2.1) e10
          subst hn12
          refine inv_op (o := ⟨some 19, _, _, _, _, _⟩) rfl (fun K' hK' => ?_)
          go_simp
          obtain ⟨h0, h1, h2, h3, h4, h5, h6, h7, h8, h9, h10, h11, h12, h13, h14, h15, h16, h17, h18, h19, h20, gW⟩ := HI.out
          exact hK'.out _ _ ⟨⟨b0, b1, b2, b3, b4, b5, b6, b7, b8, b9, b10, b11, true, b13, b14, b15, b16, b17, b18, b19, b20, s7, s8, s9, s10, s11, s12, s13, s14, s15, s16, _, s18, _, s20, s21, s22, s23, s24, s25, s26, s6⟩, rfl, rfl, h0, h1, h2, h3, h4, h5, h6, h7, h8, h9, h10, h11, (fun _ => rfl), h13, h14, h15, h16, h17, h18, h19, h20, gW⟩
        · have hn13 : b13 = false := by revert hp; cases b13 <;> simp
          have e12 : b12 = true := by revert hp; cases b12 <;> simp
          have e10 : b10 = true := by revert hp; cases b10 <;> simp
          clear hp
          obtain rfl := (HI.out.2.2.2.2.2.2.2.2.2.2.2.2.1) e12
          obtain rfl := (HI.out.2.2.2.2.2.2.2.2.2.2.1) e10
          subst hn13
          refine inv_op (o := ⟨some 20, _, _, _, _, _⟩) rfl (fun K' hK' => ?_)
          go_simp
          obtain ⟨h0, h1, h2, h3, h4, h5, h6, h7, h8, h9, h10, h11, h12, h13, h14, h15, h16, h17, h18, h19, h20, gW⟩ := HI.out
          exact hK'.out _ _ ⟨⟨b0, b1, b2, b3, b4, b5, b6, b7, b8, b9, b10, b11, b12, true, b14, b15, b16, b17, b18, b19, b20, s7, s8, s9, s10, s11, s12, s13, s14, s15, s16, _, s18, _, _, s21, s22, s23, s24, s25, s26, s6⟩, rfl, rfl, h0, h1, h2, h3, h4, h5, h6, h7, h8, h9, h10, h11, h12, (fun _ => rfl), h14, h15, h16, h17, h18, h19, h20, gW⟩
        · have hn14 : b14 = false := by revert hp; cases b14 <;> simp
          have e13 : b13 = true := by revert hp; cases b13 <;> simp
          have e10 : b10 = true := by revert hp; cases b10 <;> simp
          clear hp
          obtain rfl := (HI.out.2.2.2.2.2.2.2.2.2.2.2.2.2.1) e13
          obtain rfl := (HI.out.2.2.2.2.2.2.2.2.2.2.1) e10
          subst hn14
          refine inv_op (o := ⟨some 21, _, _, _, _, _⟩) rfl (fun K' hK' => ?_)
          go_simp
          obtain ⟨h0, h1, h2, h3, h4, h5, h6, h7, h8, h9, h10, h11, h12, h13, h14, h15, h16, h17, h18, h19, h20, gW⟩ := HI.out
          exact hK'.out _ _ ⟨⟨b0, b1, b2, b3, b4, b5, b6, b7, b8, b9, b10, b11, b12, b13, true, b15, b16, b17, b18, b19, b20, s7, s8, s9, s10, s11, s12, s13, s14, s15, s16, _, s18, s19, _, _, s22, s23, s24, s25, s26, s6⟩, rfl, rfl, h0, h1, h2, h3, h4, h5, h6, h7, h8, h9, h10, h11, h12, h13, (fun _ => rfl), h15, h16, h17, h18, h19, h20, gW⟩
        · have hn15 : b15 = false := by revert hp; cases b15 <;> simp
          have e10 : b10 = true := by revert hp; cases b10 <;> simp
          clear hp
          obtain rfl := (HI.out.2.2.2.2.2.2.2.2.2.2.1) e10
          subst hn15
          refine inv_op (o := ⟨some 22, _, _, _, _, _⟩) rfl (fun K' hK' => ?_)
          go_simp
          obtain ⟨h0, h1, h2, h3, h4, h5, h6, h7, h8, h9, h10, h11, h12, h13, h14, h15, h16, h17, h18, h19, h20, gW⟩ := HI.out
          exact hK'.out _ _ ⟨⟨b0, b1, b2, b3, b4, b5, b6, b7, b8, b9, b10, b11, b12, b13, b14, true, b16, b17, b18, b19, b20, s7, s8, s9, s10, s11, s12, s13, s14, s15, s16, _, s18, s19, s20, s21, _, s23, s24, s25, s26, s6⟩, rfl, rfl, h0, h1, h2, h3, h4, h5, h6, h7, h8, h9, h10, h11, h12, h13, h14, (fun _ => rfl), h16, h17, h18, h19, h20, gW⟩
        · have hn16 : b16 = false := by revert hp; cases b16 <;> simp
          have e15 : b15 = true := by revert hp; cases b15 <;> simp
          have e10 : b10 = true := by revert hp; cases b10 <;> simp
          clear hp
          obtain rfl := (HI.out.2.2.2.2.2.2.2.2.2.2.2.2.2.2.2.1) e15
          obtain rfl := (HI.out.2.2.2.2.2.2.2.2.2.2.1) e10
          subst hn16
          refine inv_op (o := ⟨some 23, _, _, _, _, _⟩) rfl (fun K' hK' => ?_)
          go_simp
          obtain ⟨h0, h1, h2, h3, h4, h5, h6, h7, h8, h9, h10, h11, h12, h13, h14, h15, h16, h17, h18, h19, h20, gW⟩ := HI.out
          exact hK'.out _ _ ⟨⟨b0, b1, b2, b3, b4, b5, b6, b7, b8, b9, b10, b11, b12, b13, b14, b15, true, b17, b18, b19, b20, s7, s8, s9, s10, s11, s12, s13, s14, s15, s16, _, s18, s19, s20, s21, _, _, s24, s25, s26, s6⟩, rfl, rfl, h0, h1, h2, h3, h4, h5, h6, h7, h8, h9, h10, h11, h12, h13, h14, h15, (fun _ => rfl), h17, h18, h19, h20, gW⟩
        · have hn17 : b17 = false := by revert hp; cases b17 <;> simp
          have e14 : b14 = true := by revert hp; cases b14 <;> simp
          have e16 : b16 = true := by revert hp; cases b16 <;> simp
          have e10 : b10 = true := by revert hp; cases b10 <;> simp
          clear hp
          obtain rfl := (HI.out.2.2.2.2.2.2.2.2.2.2.2.2.2.2.1) e14
          obtain rfl := (HI.out.2.2.2.2.2.2.2.2.2.2.2.2.2.2.2.2.1) e16
          obtain rfl := (HI.out.2.2.2.2.2.2.2.2.2.2.1) e10
          subst hn17
          refine inv_op (o := ⟨some 24, _, _, _, _, _⟩) rfl (fun K' hK' => ?_)
          go_simp
          obtain ⟨h0, h1, h2, h3, h4, h5, h6, h7, h8, h9, h10, h11, h12, h13, h14, h15, h16, h17, h18, h19, h20, gW⟩ := HI.out
          exact hK'.out _ _ ⟨⟨b0, b1, b2, b3, b4, b5, b6, b7, b8, b9, b10, b11, b12, b13, b14, b15, b16, true, b18, b19, b20, s7, s8, s9, s10, s11, s12, s13, s14, s15, s16, _, s18, s19, s20, _, s22, _, _, s25, s26, s6⟩, rfl, rfl, h0, h1, h2, h3, h4, h5, h6, h7, h8, h9, h10, h11, h12, h13, h14, h15, h16, (fun _ => rfl), h18, h19, h20, gW⟩
        · have hn18 : b18 = false := by revert hp; cases b18 <;> simp
          have e11 : b11 = true := by revert hp; cases b11 <;> simp
          have e17 : b17 = true := by revert hp; cases b17 <;> simp
          have e10 : b10 = true := by revert hp; cases b10 <;> simp
          clear hp
          obtain rfl := (HI.out.2.2.2.2.2.2.2.2.2.2.2.1) e11
          obtain rfl := (HI.out.2.2.2.2.2.2.2.2.2.2.2.2.2.2.2.2.2.1) e17
          obtain rfl := (HI.out.2.2.2.2.2.2.2.2.2.2.1) e10
          subst hn18
          refine inv_op (o := ⟨some 25, _, _, _, _, _⟩) rfl (fun K' hK' => ?_)
          go_simp
          obtain ⟨h0, h1, h2, h3, h4, h5, h6, h7, h8, h9, h10, h11, h12, h13, h14, h15, h16, h17, h18, h19, h20, gW⟩ := HI.out
          exact hK'.out _ _ ⟨⟨b0, b1, b2, b3, b4, b5, b6, b7, b8, b9, b10, b11, b12, b13, b14, b15, b16, b17, true, b19, b20, s7, s8, s9, s10, s11, s12, s13, s14, s15, s16, _, _, s19, s20, s21, s22, s23, _, _, s26, s6⟩, rfl, rfl, h0, h1, h2, h3, h4, h5, h6, h7, h8, h9, h10, h11, h12, h13, h14, h15, h16, h17, (fun _ => rfl), h19, h20, gW⟩
        · have hn19 : b19 = false := by revert hp; cases b19 <;> simp
          have e10 : b10 = true := by revert hp; cases b10 <;> simp
          have e18 : b18 = true := by revert hp; cases b18 <;> simp
          clear hp
          obtain rfl := (HI.out.2.2.2.2.2.2.2.2.2.2.1) e10
          obtain rfl := (HI.out.2.2.2.2.2.2.2.2.2.2.2.2.2.2.2.2.2.2.1) e18
          subst hn19
          refine inv_op (o := ⟨some 26, _, _, _, _, _⟩) rfl (fun K' hK' => ?_)
          go_simp
          obtain ⟨h0, h1, h2, h3, h4, h5, h6, h7, h8, h9, h10, h11, h12, h13, h14, h15, h16, h17, h18, h19, h20, gW⟩ := HI.out
          exact hK'.out _ _ ⟨⟨b0, b1, b2, b3, b4, b5, b6, b7, b8, b9, b10, b11, b12, b13, b14, b15, b16, b17, b18, true, b20, s7, s8, s9, s10, s11, s12, s13, s14, s15, s16, _, s18, s19, s20, s21, s22, s23, s24, _, _, s6⟩, rfl, rfl, h0, h1, h2, h3, h4, h5, h6, h7, h8, h9, h10, h11, h12, h13, h14, h15, h16, h17, h18, (fun _ => rfl), h20, gW⟩
        · have hn20 : b20 = false := by revert hp; cases b20 <;> simp
          have e19 : b19 = true := by revert hp; cases b19 <;> simp
          clear hp
          obtain rfl := (HI.out.2.2.2.2.2.2.2.2.2.2.2.2.2.2.2.2.2.2.2.1) e19
          subst hn20
          refine inv_op (o := ⟨some 6, _, _, _, _, _⟩) rfl (fun K' hK' => ?_)
          go_simp
          obtain ⟨h0, h1, h2, h3, h4, h5, h6, h7, h8, h9, h10, h11, h12, h13, h14, h15, h16, h17, h18, h19, h20, gW⟩ := HI.out
          exact hK'.out _ _ ⟨⟨b0, b1, b2, b3, b4, b5, b6, b7, b8, b9, b10, b11, b12, b13, b14, b15, b16, b17, b18, b19, true, s7, s8, s9, s10, s11, s12, s13, s14, s15, s16, s17, s18, s19, s20, s21, s22, s23, s24, s25, _, _⟩, rfl, rfl, h0, h1, h2, h3, h4, h5, h6, h7, h8, h9, h10, h11, h12, h13, h14, h15, h16, h17, h18, h19, (fun _ => rfl), gW⟩
      case hdone =>
        rintro ⟨b0, b1, b2, b3, b4, b5, b6, b7, b8, b9, b10, b11, b12, b13, b14, b15, b16, b17, b18, b19, b20, s7, s8, s9, s10, s11, s12, s13, s14, s15, s16, s17, s18, s19, s20, s21, s22, s23, s24, s25, s26, s6⟩ W hI hall
        dsimp only at hI hall ⊢
        have HI := Lib.hid hI
        clear hI
        obtain rfl : b0 = true := hall 0 (by decide)
        obtain rfl : b1 = true := hall 1 (by decide)
        obtain rfl : b2 = true := hall 2 (by decide)
        obtain rfl : b3 = true := hall 3 (by decide)
        obtain rfl : b4 = true := hall 4 (by decide)
        obtain rfl : b5 = true := hall 5 (by decide)
        obtain rfl : b6 = true := hall 6 (by decide)
        obtain rfl : b7 = true := hall 7 (by decide)
        obtain rfl : b8 = true := hall 8 (by decide)
        obtain rfl : b9 = true := hall 9 (by decide)
        obtain rfl : b10 = true := hall 10 (by decide)
        obtain rfl : b11 = true := hall 11 (by decide)
        obtain rfl : b12 = true := hall 12 (by decide)
        obtain rfl : b13 = true := hall 13 (by decide)
        obtain rfl : b14 = true := hall 14 (by decide)
        obtain rfl : b15 = true := hall 15 (by decide)
        obtain rfl : b16 = true := hall 16 (by decide)
        obtain rfl : b17 = true := hall 17 (by decide)
        obtain rfl : b18 = true := hall 18 (by decide)
        obtain rfl : b19 = true := hall 19 (by decide)
        obtain rfl : b20 = true := hall 20 (by decide)
        obtain rfl := (HI.out.2.2.2.2.2.2.2.2.2.2.2.2.2.2.2.2.2.2.2.2.1) rfl
        have gW := HI.out.2.2.2.2.2.2.2.2.2.2.2.2.2.2.2.2.2.2.2.2.2
        clear HI hall
        have GW := Lib.hid (HB.out.trans (gW.mono HB.out.size))
        clear gW
        go_wp2
        go_ret
        exact ⟨rfl, GW.out⟩
    | true =>
      have hd := decide_eq_true h1
      have h2' := h2
      have HC := Lib.hid (show ∀ W, Below (w.alloc (.cells #[.slice a n c] 28)).heap.size (w.alloc (.cells #[.slice a n c] 28)) W → Calls Try.prog 48 #[.agg #[.slice a n c]] W fun e w' => e = .returned (.bool true) ∧ Below W.heap.size W w' from fun W _ => check_any a n c HN.out true (by rw [hd]) W)
      have HS := Lib.hid (show ∀ W, Calls Try.prog 29 #[.int .i64 z] W fun e w' => e = .returned (.bool true) ∧ w' = W from fun W => isSize_any z true h2' W)
      obtain ⟨q, hq⟩ : ∃ q, q = sizeZ z := ⟨_, rfl⟩
      have HZ := Lib.hid (show ∀ W, Below (w.alloc (.cells #[.slice a n c] 28)).heap.size (w.alloc (.cells #[.slice a n c] 28)) W → Calls Try.prog 6 #[.int .i64 z] W fun e w' => e = .returned (.int .i64 q) ∧ Below W.heap.size W w' from fun W _ => size_any z q hq.symm W)
      have hq2 : 0 ≤ q ∧ q ≤ 1000 := by
        obtain ⟨N, rfl, hN⟩ := right_of h2
        have h3 := sizeN_le N
        have h4 := hN.le
        rw [hq, sizeZ_of hN]
        omega
      obtain ⟨d, hd3⟩ : ∃ d, d = (n : Int) - q := ⟨_, rfl⟩
      have hd4 : (n : Int) - q = d := hd3.symm
      have hwd : IntKind.i64.wrap d = d := IntWalk.i64_in _ (by omega)
      by_cases h3 : 0 ≤ b
      · have hb3 : decide (0 ≤ b) = true := decide_eq_true h3
        have hb4 : decide (b ≤ d) = r := by
          rw [← hr, okR, h2, hd, Bool.true_and, Bool.true_and, hd3, hq]
          congr 1
          exact propext ⟨fun h => ⟨h3, h⟩, fun h => h.2⟩
        clear hr h1 h2 hn hd hq hq2 hd3 h3 h2'
        go_enter Try.func27, Try.ntmps27
        go_wp2_with fail
        refine wp_region_rec (X := RngCheck4) (by kernel_rfl) (by kernel_rfl) (fun x => #[x.b0, x.b1, x.b2, x.b3, x.b4, x.b5, x.b6, x.b7, x.b8, x.b9, x.b10, x.b11, x.b12, x.b13, x.b14, x.b15, x.b16, x.b17, x.b18, x.b19, x.b20]) (fun x => { tmps := #[.agg #[.slice a n c], .int .i64 b, .int .i64 z, .pointer (some ⟨w.heap.size, 0, none⟩), undef, undef, x.s6, x.s7, x.s8, x.s9, x.s10, x.s11, x.s12, x.s13, x.s14, x.s15, x.s16, x.s17, x.s18, x.s19, x.s20, x.s21, x.s22, x.s23, x.s24, x.s25, x.s26], defers := [] }) (fun x W => (x.b0 = true → x.s7 = .agg #[.slice a n c]) ∧ (x.b1 = true → x.s8 = .bool true) ∧ (x.b2 = true → x.s9 = .bool true) ∧ (x.b3 = true → x.s10 = .int .i64 z) ∧ (x.b4 = true → x.s11 = .bool true) ∧ (x.b5 = true → x.s12 = .bool true) ∧ (x.b6 = true → x.s13 = .bool true) ∧ (x.b7 = true → x.s14 = .int .i64 b) ∧ (x.b8 = true → x.s15 = .bool true) ∧ (x.b9 = true → x.s16 = .bool true) ∧ (x.b10 = true → x.s17 = .bool true) ∧ (x.b11 = true → x.s18 = .int .i64 b) ∧ (x.b12 = true → x.s19 = .pointer (some ⟨w.heap.size, 0, none⟩)) ∧ (x.b13 = true → x.s20 = .slice a n c) ∧ (x.b14 = true → x.s21 = .int .i64 (n : Nat)) ∧ (x.b15 = true → x.s22 = .int .i64 z) ∧ (x.b16 = true → x.s23 = .int .i64 q) ∧ (x.b17 = true → x.s24 = .int .i64 d) ∧ (x.b18 = true → x.s25 = .bool r) ∧ (x.b19 = true → x.s26 = .bool r) ∧ (x.b20 = true → x.s6 = .bool r) ∧ (Below (w.alloc (.cells #[.slice a n c] 28)).heap.size (w.alloc (.cells #[.slice a n c] 28)) W)) ⟨false, false, false, false, false, false, false, false, false, false, false, false, false, false, false, false, false, false, false, false, false, undef, undef, undef, undef, undef, undef, undef, undef, undef, undef, undef, undef, undef, undef, undef, undef, undef, undef, undef, undef, .bool false⟩ rfl rfl ⟨(fun h => by cases h), (fun h => by cases h), (fun h => by cases h), (fun h => by cases h), (fun h => by cases h), (fun h => by cases h), (fun h => by cases h), (fun h => by cases h), (fun h => by cases h), (fun h => by cases h), (fun h => by cases h), (fun h => by cases h), (fun h => by cases h), (fun h => by cases h), (fun h => by cases h), (fun h => by cases h), (fun h => by cases h), (fun h => by cases h), (fun h => by cases h), (fun h => by cases h), (fun h => by cases h), (Below.refl _ _).drew⟩ (fun _ => rfl) ?hstep ?hdone
        case hstep =>
          rintro ⟨b0, b1, b2, b3, b4, b5, b6, b7, b8, b9, b10, b11, b12, b13, b14, b15, b16, b17, b18, b19, b20, s7, s8, s9, s10, s11, s12, s13, s14, s15, s16, s17, s18, s19, s20, s21, s22, s23, s24, s25, s26, s6⟩ W hI i hi
          dsimp only at hI hi ⊢
          have HI := Lib.hid hI
          clear hI
          rw [Region.ready, List.mem_filter, List.mem_range] at hi
          obtain ⟨hlt, hp⟩ := hi
          have hi7 : i = 0 ∨ i = 1 ∨ i = 2 ∨ i = 3 ∨ i = 4 ∨ i = 5 ∨ i = 6 ∨ i = 7 ∨ i = 8 ∨ i = 9 ∨ i = 10 ∨ i = 11 ∨ i = 12 ∨ i = 13 ∨ i = 14 ∨ i = 15 ∨ i = 16 ∨ i = 17 ∨ i = 18 ∨ i = 19 ∨ i = 20 := by simp at hlt; omega
          clear hlt
          rcases hi7 with rfl | rfl | rfl | rfl | rfl | rfl | rfl | rfl | rfl | rfl | rfl | rfl | rfl | rfl | rfl | rfl | rfl | rfl | rfl | rfl | rfl
          all_goals simp [Region.binds] at hp
          · have hn0 : b0 = false := by revert hp; cases b0 <;> simp
            clear hp
            subst hn0
            refine inv_op (o := ⟨some 7, _, _, _, _, _⟩) rfl (fun K' hK' => ?_)
            have gW := HI.out.2.2.2.2.2.2.2.2.2.2.2.2.2.2.2.2.2.2.2.2.2
            obtain ⟨hc1, hc2⟩ := HM.out W gW
            go_simp
            obtain ⟨h0, h1, h2, h3, h4, h5, h6, h7, h8, h9, h10, h11, h12, h13, h14, h15, h16, h17, h18, h19, h20, gW⟩ := HI.out
            exact hK'.out _ _ ⟨⟨true, b1, b2, b3, b4, b5, b6, b7, b8, b9, b10, b11, b12, b13, b14, b15, b16, b17, b18, b19, b20, _, s8, s9, s10, s11, s12, s13, s14, s15, s16, s17, s18, s19, s20, s21, s22, s23, s24, s25, s26, s6⟩, rfl, rfl, (fun _ => rfl), h1, h2, h3, h4, h5, h6, h7, h8, h9, h10, h11, h12, h13, h14, h15, h16, h17, h18, h19, h20, gW⟩
          · have hn1 : b1 = false := by revert hp; cases b1 <;> simp
            have e0 : b0 = true := by revert hp; cases b0 <;> simp
            clear hp
            obtain rfl := (HI.out.1) e0
            subst hn1
            refine inv_op (o := ⟨some 8, _, _, _, _, _⟩) rfl (fun K' hK' => ?_)
            have gW := HI.out.2.2.2.2.2.2.2.2.2.2.2.2.2.2.2.2.2.2.2.2.2
            go_simp
            refine (HC.out W gW).mono ?_
            rintro e w1 ⟨rfl, bn⟩
            obtain ⟨h0, h1, h2, h3, h4, h5, h6, h7, h8, h9, h10, h11, h12, h13, h14, h15, h16, h17, h18, h19, h20, gW⟩ := HI.out
            exact hK'.out _ _ ⟨⟨b0, true, b2, b3, b4, b5, b6, b7, b8, b9, b10, b11, b12, b13, b14, b15, b16, b17, b18, b19, b20, _, _, s9, s10, s11, s12, s13, s14, s15, s16, s17, s18, s19, s20, s21, s22, s23, s24, s25, s26, s6⟩, rfl, rfl, h0, (fun _ => rfl), h2, h3, h4, h5, h6, h7, h8, h9, h10, h11, h12, h13, h14, h15, h16, h17, h18, h19, h20, (gW.trans (bn.mono gW.size))⟩
          · have hn2 : b2 = false := by revert hp; cases b2 <;> simp
            have e1 : b1 = true := by revert hp; cases b1 <;> simp
            clear hp
            obtain rfl := (HI.out.2.1) e1
            subst hn2
            refine inv_op (o := ⟨some 9, _, _, _, _, _⟩) rfl (fun K' hK' => ?_)
            go_simp
            obtain ⟨h0, h1, h2, h3, h4, h5, h6, h7, h8, h9, h10, h11, h12, h13, h14, h15, h16, h17, h18, h19, h20, gW⟩ := HI.out
            exact hK'.out _ _ ⟨⟨b0, b1, true, b3, b4, b5, b6, b7, b8, b9, b10, b11, b12, b13, b14, b15, b16, b17, b18, b19, b20, s7, _, _, s10, s11, s12, s13, s14, s15, s16, s17, s18, s19, s20, s21, s22, s23, s24, s25, s26, s6⟩, rfl, rfl, h0, h1, (fun _ => rfl), h3, h4, h5, h6, h7, h8, h9, h10, h11, h12, h13, h14, h15, h16, h17, h18, h19, h20, gW⟩
          · have hn3 : b3 = false := by revert hp; cases b3 <;> simp
            have e2 : b2 = true := by revert hp; cases b2 <;> simp
            clear hp
            obtain rfl := (HI.out.2.2.1) e2
            subst hn3
            refine inv_op (o := ⟨some 10, _, _, _, _, _⟩) rfl (fun K' hK' => ?_)
            go_simp
            obtain ⟨h0, h1, h2, h3, h4, h5, h6, h7, h8, h9, h10, h11, h12, h13, h14, h15, h16, h17, h18, h19, h20, gW⟩ := HI.out
            exact hK'.out _ _ ⟨⟨b0, b1, b2, true, b4, b5, b6, b7, b8, b9, b10, b11, b12, b13, b14, b15, b16, b17, b18, b19, b20, s7, s8, _, _, s11, s12, s13, s14, s15, s16, s17, s18, s19, s20, s21, s22, s23, s24, s25, s26, s6⟩, rfl, rfl, h0, h1, h2, (fun _ => rfl), h4, h5, h6, h7, h8, h9, h10, h11, h12, h13, h14, h15, h16, h17, h18, h19, h20, gW⟩
          · have hn4 : b4 = false := by revert hp; cases b4 <;> simp
            have e3 : b3 = true := by revert hp; cases b3 <;> simp
            have e2 : b2 = true := by revert hp; cases b2 <;> simp
            clear hp
            obtain rfl := (HI.out.2.2.2.1) e3
            obtain rfl := (HI.out.2.2.1) e2
            subst hn4
            refine inv_op (o := ⟨some 11, _, _, _, _, _⟩) rfl (fun K' hK' => ?_)
            go_simp
            refine (HS.out W).mono ?_
            rintro e w1 ⟨rfl, rfl⟩
            obtain ⟨h0, h1, h2, h3, h4, h5, h6, h7, h8, h9, h10, h11, h12, h13, h14, h15, h16, h17, h18, h19, h20, gW⟩ := HI.out
            exact hK'.out _ _ ⟨⟨b0, b1, b2, b3, true, b5, b6, b7, b8, b9, b10, b11, b12, b13, b14, b15, b16, b17, b18, b19, b20, s7, s8, _, _, _, s12, s13, s14, s15, s16, s17, s18, s19, s20, s21, s22, s23, s24, s25, s26, s6⟩, rfl, rfl, h0, h1, h2, h3, (fun _ => rfl), h5, h6, h7, h8, h9, h10, h11, h12, h13, h14, h15, h16, h17, h18, h19, h20, gW⟩
          · have hn5 : b5 = false := by revert hp; cases b5 <;> simp
            have e2 : b2 = true := by revert hp; cases b2 <;> simp
            have e4 : b4 = true := by revert hp; cases b4 <;> simp
            clear hp
            obtain rfl := (HI.out.2.2.1) e2
            obtain rfl := (HI.out.2.2.2.2.1) e4
            subst hn5
            refine inv_op (o := ⟨some 12, _, _, _, _, _⟩) rfl (fun K' hK' => ?_)
            go_simp
            obtain ⟨h0, h1, h2, h3, h4, h5, h6, h7, h8, h9, h10, h11, h12, h13, h14, h15, h16, h17, h18, h19, h20, gW⟩ := HI.out
            exact hK'.out _ _ ⟨⟨b0, b1, b2, b3, b4, true, b6, b7, b8, b9, b10, b11, b12, b13, b14, b15, b16, b17, b18, b19, b20, s7, s8, _, s10, _, _, s13, s14, s15, s16, s17, s18, s19, s20, s21, s22, s23, s24, s25, s26, s6⟩, rfl, rfl, h0, h1, h2, h3, h4, (fun _ => rfl), h6, h7, h8, h9, h10, h11, h12, h13, h14, h15, h16, h17, h18, h19, h20, gW⟩
          · have hn6 : b6 = false := by revert hp; cases b6 <;> simp
            have e5 : b5 = true := by revert hp; cases b5 <;> simp
            clear hp
            obtain rfl := (HI.out.2.2.2.2.2.1) e5
            subst hn6
            refine inv_op (o := ⟨some 13, _, _, _, _, _⟩) rfl (fun K' hK' => ?_)
            go_simp
            obtain ⟨h0, h1, h2, h3, h4, h5, h6, h7, h8, h9, h10, h11, h12, h13, h14, h15, h16, h17, h18, h19, h20, gW⟩ := HI.out
            exact hK'.out _ _ ⟨⟨b0, b1, b2, b3, b4, b5, true, b7, b8, b9, b10, b11, b12, b13, b14, b15, b16, b17, b18, b19, b20, s7, s8, s9, s10, s11, _, _, s14, s15, s16, s17, s18, s19, s20, s21, s22, s23, s24, s25, s26, s6⟩, rfl, rfl, h0, h1, h2, h3, h4, h5, (fun _ => rfl), h7, h8, h9, h10, h11, h12, h13, h14, h15, h16, h17, h18, h19, h20, gW⟩
          · have hn7 : b7 = false := by revert hp; cases b7 <;> simp
            have e6 : b6 = true := by revert hp; cases b6 <;> simp
            clear hp
            obtain rfl := (HI.out.2.2.2.2.2.2.1) e6
            subst hn7
            refine inv_op (o := ⟨some 14, _, _, _, _, _⟩) rfl (fun K' hK' => ?_)
            go_simp
            obtain ⟨h0, h1, h2, h3, h4, h5, h6, h7, h8, h9, h10, h11, h12, h13, h14, h15, h16, h17, h18, h19, h20, gW⟩ := HI.out
            exact hK'.out _ _ ⟨⟨b0, b1, b2, b3, b4, b5, b6, true, b8, b9, b10, b11, b12, b13, b14, b15, b16, b17, b18, b19, b20, s7, s8, s9, s10, s11, s12, _, _, s15, s16, s17, s18, s19, s20, s21, s22, s23, s24, s25, s26, s6⟩, rfl, rfl, h0, h1, h2, h3, h4, h5, h6, (fun _ => rfl), h8, h9, h10, h11, h12, h13, h14, h15, h16, h17, h18, h19, h20, gW⟩
          · have hn8 : b8 = false := by revert hp; cases b8 <;> simp
            have e7 : b7 = true := by revert hp; cases b7 <;> simp
            have e6 : b6 = true := by revert hp; cases b6 <;> simp
            clear hp
            obtain rfl := (HI.out.2.2.2.2.2.2.2.1) e7
            obtain rfl := (HI.out.2.2.2.2.2.2.1) e6
            subst hn8
            refine inv_op (o := ⟨some 15, _, _, _, _, _⟩) rfl (fun K' hK' => ?_)
            go_simp
            obtain ⟨h0, h1, h2, h3, h4, h5, h6, h7, h8, h9, h10, h11, h12, h13, h14, h15, h16, h17, h18, h19, h20, gW⟩ := HI.out
            exact hK'.out _ _ ⟨⟨b0, b1, b2, b3, b4, b5, b6, b7, true, b9, b10, b11, b12, b13, b14, b15, b16, b17, b18, b19, b20, s7, s8, s9, s10, s11, s12, _, _, _, s16, s17, s18, s19, s20, s21, s22, s23, s24, s25, s26, s6⟩, rfl, rfl, h0, h1, h2, h3, h4, h5, h6, h7, (fun _ => rfl), h9, h10, h11, h12, h13, h14, h15, h16, h17, h18, h19, h20, gW⟩
          · have hn9 : b9 = false := by revert hp; cases b9 <;> simp
            have e6 : b6 = true := by revert hp; cases b6 <;> simp
            have e8 : b8 = true := by revert hp; cases b8 <;> simp
            clear hp
            obtain rfl := (HI.out.2.2.2.2.2.2.1) e6
            obtain rfl := (HI.out.2.2.2.2.2.2.2.2.1) e8
            subst hn9
            refine inv_op (o := ⟨some 16, _, _, _, _, _⟩) rfl (fun K' hK' => ?_)
            go_simp
            obtain ⟨h0, h1, h2, h3, h4, h5, h6, h7, h8, h9, h10, h11, h12, h13, h14, h15, h16, h17, h18, h19, h20, gW⟩ := HI.out
            exact hK'.out _ _ ⟨⟨b0, b1, b2, b3, b4, b5, b6, b7, b8, true, b10, b11, b12, b13, b14, b15, b16, b17, b18, b19, b20, s7, s8, s9, s10, s11, s12, _, s14, _, _, s17, s18, s19, s20, s21, s22, s23, s24, s25, s26, s6⟩, rfl, rfl, h0, h1, h2, h3, h4, h5, h6, h7, h8, (fun _ => rfl), h10, h11, h12, h13, h14, h15, h16, h17, h18, h19, h20, gW⟩
          · have hn10 : b10 = false := by revert hp; cases b10 <;> simp
            have e9 : b9 = true := by revert hp; cases b9 <;> simp
            clear hp
            obtain rfl := (HI.out.2.2.2.2.2.2.2.2.2.1) e9
            subst hn10
            refine inv_op (o := ⟨some 17, _, _, _, _, _⟩) rfl (fun K' hK' => ?_)
            go_simp
            obtain ⟨h0, h1, h2, h3, h4, h5, h6, h7, h8, h9, h10, h11, h12, h13, h14, h15, h16, h17, h18, h19, h20, gW⟩ := HI.out
            exact hK'.out _ _ ⟨⟨b0, b1, b2, b3, b4, b5, b6, b7, b8, b9, true, b11, b12, b13, b14, b15, b16, b17, b18, b19, b20, s7, s8, s9, s10, s11, s12, s13, s14, s15, _, _, s18, s19, s20, s21, s22, s23, s24, s25, s26, s6⟩, rfl, rfl, h0, h1, h2, h3, h4, h5, h6, h7, h8, h9, (fun _ => rfl), h11, h12, h13, h14, h15, h16, h17, h18, h19, h20, gW⟩
          · have hn11 : b11 = false := by revert hp; cases b11 <;> simp
            have e10 : b10 = true := by revert hp; cases b10 <;> simp
            clear hp
            obtain rfl := (HI.out.2.2.2.2.2.2.2.2.2.2.1) e10
            subst hn11
            refine inv_op (o := ⟨some 18, _, _, _, _, _⟩) rfl (fun K' hK' => ?_)
            go_simp
            obtain ⟨h0, h1, h2, h3, h4, h5, h6, h7, h8, h9, h10, h11, h12, h13, h14, h15, h16, h17, h18, h19, h20, gW⟩ := HI.out
            exact hK'.out _ _ ⟨⟨b0, b1, b2, b3, b4, b5, b6, b7, b8, b9, b10, true, b12, b13, b14, b15, b16, b17, b18, b19, b20, s7, s8, s9, s10, s11, s12, s13, s14, s15, s16, _, _, s19, s20, s21, s22, s23, s24, s25, s26, s6⟩, rfl, rfl, h0, h1, h2, h3, h4, h5, h6, h7, h8, h9, h10, (fun _ => rfl), h12, h13, h14, h15, h16, h17, h18, h19, h20, gW⟩
          · have hn12 : b12 = false := by revert hp; cases b12 <;> simp
            have e10 : b10 = true := by revert hp; cases b10 <;> simp
            clear hp
            obtain rfl := (HI.out.2.2.2.2.2.2.2.2.2.2.1) e10
            subst hn12
            refine inv_op (o := ⟨some 19, _, _, _, _, _⟩) rfl (fun K' hK' => ?_)
            go_simp
            obtain ⟨h0, h1, h2, h3, h4, h5, h6, h7, h8, h9, h10, h11, h12, h13, h14, h15, h16, h17, h18, h19, h20, gW⟩ := HI.out
            exact hK'.out _ _ ⟨⟨b0, b1, b2, b3, b4, b5, b6, b7, b8, b9, b10, b11, true, b13, b14, b15, b16, b17, b18, b19, b20, s7, s8, s9, s10, s11, s12, s13, s14, s15, s16, _, s18, _, s20, s21, s22, s23, s24, s25, s26, s6⟩, rfl, rfl, h0, h1, h2, h3, h4, h5, h6, h7, h8, h9, h10, h11, (fun _ => rfl), h13, h14, h15, h16, h17, h18, h19, h20, gW⟩
          · have hn13 : b13 = false := by revert hp; cases b13 <;> simp
            have e12 : b12 = true := by revert hp; cases b12 <;> simp
            have e10 : b10 = true := by revert hp; cases b10 <;> simp
            clear hp
            obtain rfl := (HI.out.2.2.2.2.2.2.2.2.2.2.2.2.1) e12
            obtain rfl := (HI.out.2.2.2.2.2.2.2.2.2.2.1) e10
            subst hn13
            refine inv_op (o := ⟨some 20, _, _, _, _, _⟩) rfl (fun K' hK' => ?_)
            have gW := HI.out.2.2.2.2.2.2.2.2.2.2.2.2.2.2.2.2.2.2.2.2.2
            obtain ⟨hc1, hc2⟩ := HM.out W gW
            go_simp
            obtain ⟨h0, h1, h2, h3, h4, h5, h6, h7, h8, h9, h10, h11, h12, h13, h14, h15, h16, h17, h18, h19, h20, gW⟩ := HI.out
            exact hK'.out _ _ ⟨⟨b0, b1, b2, b3, b4, b5, b6, b7, b8, b9, b10, b11, b12, true, b14, b15, b16, b17, b18, b19, b20, s7, s8, s9, s10, s11, s12, s13, s14, s15, s16, _, s18, _, _, s21, s22, s23, s24, s25, s26, s6⟩, rfl, rfl, h0, h1, h2, h3, h4, h5, h6, h7, h8, h9, h10, h11, h12, (fun _ => rfl), h14, h15, h16, h17, h18, h19, h20, gW⟩
          · have hn14 : b14 = false := by revert hp; cases b14 <;> simp
            have e13 : b13 = true := by revert hp; cases b13 <;> simp
            have e10 : b10 = true := by revert hp; cases b10 <;> simp
            clear hp
            obtain rfl := (HI.out.2.2.2.2.2.2.2.2.2.2.2.2.2.1) e13
            obtain rfl := (HI.out.2.2.2.2.2.2.2.2.2.2.1) e10
            subst hn14
            refine inv_op (o := ⟨some 21, _, _, _, _, _⟩) rfl (fun K' hK' => ?_)
            go_simp
            obtain ⟨h0, h1, h2, h3, h4, h5, h6, h7, h8, h9, h10, h11, h12, h13, h14, h15, h16, h17, h18, h19, h20, gW⟩ := HI.out
            exact hK'.out _ _ ⟨⟨b0, b1, b2, b3, b4, b5, b6, b7, b8, b9, b10, b11, b12, b13, true, b15, b16, b17, b18, b19, b20, s7, s8, s9, s10, s11, s12, s13, s14, s15, s16, _, s18, s19, _, _, s22, s23, s24, s25, s26, s6⟩, rfl, rfl, h0, h1, h2, h3, h4, h5, h6, h7, h8, h9, h10, h11, h12, h13, (fun _ => rfl), h15, h16, h17, h18, h19, h20, gW⟩
          · have hn15 : b15 = false := by revert hp; cases b15 <;> simp
            have e10 : b10 = true := by revert hp; cases b10 <;> simp
            clear hp
            obtain rfl := (HI.out.2.2.2.2.2.2.2.2.2.2.1) e10
            subst hn15
            refine inv_op (o := ⟨some 22, _, _, _, _, _⟩) rfl (fun K' hK' => ?_)
            go_simp
            obtain ⟨h0, h1, h2, h3, h4, h5, h6, h7, h8, h9, h10, h11, h12, h13, h14, h15, h16, h17, h18, h19, h20, gW⟩ := HI.out
            exact hK'.out _ _ ⟨⟨b0, b1, b2, b3, b4, b5, b6, b7, b8, b9, b10, b11, b12, b13, b14, true, b16, b17, b18, b19, b20, s7, s8, s9, s10, s11, s12, s13, s14, s15, s16, _, s18, s19, s20, s21, _, s23, s24, s25, s26, s6⟩, rfl, rfl, h0, h1, h2, h3, h4, h5, h6, h7, h8, h9, h10, h11, h12, h13, h14, (fun _ => rfl), h16, h17, h18, h19, h20, gW⟩
          · have hn16 : b16 = false := by revert hp; cases b16 <;> simp
            have e15 : b15 = true := by revert hp; cases b15 <;> simp
            have e10 : b10 = true := by revert hp; cases b10 <;> simp
            clear hp
            obtain rfl := (HI.out.2.2.2.2.2.2.2.2.2.2.2.2.2.2.2.1) e15
            obtain rfl := (HI.out.2.2.2.2.2.2.2.2.2.2.1) e10
            subst hn16
            refine inv_op (o := ⟨some 23, _, _, _, _, _⟩) rfl (fun K' hK' => ?_)
            have gW := HI.out.2.2.2.2.2.2.2.2.2.2.2.2.2.2.2.2.2.2.2.2.2
            go_simp
            refine (HZ.out W gW).mono ?_
            rintro e w1 ⟨rfl, bn⟩
            obtain ⟨h0, h1, h2, h3, h4, h5, h6, h7, h8, h9, h10, h11, h12, h13, h14, h15, h16, h17, h18, h19, h20, gW⟩ := HI.out
            exact hK'.out _ _ ⟨⟨b0, b1, b2, b3, b4, b5, b6, b7, b8, b9, b10, b11, b12, b13, b14, b15, true, b17, b18, b19, b20, s7, s8, s9, s10, s11, s12, s13, s14, s15, s16, _, s18, s19, s20, s21, _, _, s24, s25, s26, s6⟩, rfl, rfl, h0, h1, h2, h3, h4, h5, h6, h7, h8, h9, h10, h11, h12, h13, h14, h15, (fun _ => rfl), h17, h18, h19, h20, (gW.trans (bn.mono gW.size))⟩
          · have hn17 : b17 = false := by revert hp; cases b17 <;> simp
            have e14 : b14 = true := by revert hp; cases b14 <;> simp
            have e16 : b16 = true := by revert hp; cases b16 <;> simp
            have e10 : b10 = true := by revert hp; cases b10 <;> simp
            clear hp
            obtain rfl := (HI.out.2.2.2.2.2.2.2.2.2.2.2.2.2.2.1) e14
            obtain rfl := (HI.out.2.2.2.2.2.2.2.2.2.2.2.2.2.2.2.2.1) e16
            obtain rfl := (HI.out.2.2.2.2.2.2.2.2.2.2.1) e10
            subst hn17
            refine inv_op (o := ⟨some 24, _, _, _, _, _⟩) rfl (fun K' hK' => ?_)
            go_simp
            obtain ⟨h0, h1, h2, h3, h4, h5, h6, h7, h8, h9, h10, h11, h12, h13, h14, h15, h16, h17, h18, h19, h20, gW⟩ := HI.out
            exact hK'.out _ _ ⟨⟨b0, b1, b2, b3, b4, b5, b6, b7, b8, b9, b10, b11, b12, b13, b14, b15, b16, true, b18, b19, b20, s7, s8, s9, s10, s11, s12, s13, s14, s15, s16, _, s18, s19, s20, _, s22, _, _, s25, s26, s6⟩, rfl, rfl, h0, h1, h2, h3, h4, h5, h6, h7, h8, h9, h10, h11, h12, h13, h14, h15, h16, (fun _ => rfl), h18, h19, h20, gW⟩
          · have hn18 : b18 = false := by revert hp; cases b18 <;> simp
            have e11 : b11 = true := by revert hp; cases b11 <;> simp
            have e17 : b17 = true := by revert hp; cases b17 <;> simp
            have e10 : b10 = true := by revert hp; cases b10 <;> simp
            clear hp
            obtain rfl := (HI.out.2.2.2.2.2.2.2.2.2.2.2.1) e11
            obtain rfl := (HI.out.2.2.2.2.2.2.2.2.2.2.2.2.2.2.2.2.2.1) e17
            obtain rfl := (HI.out.2.2.2.2.2.2.2.2.2.2.1) e10
            subst hn18
            refine inv_op (o := ⟨some 25, _, _, _, _, _⟩) rfl (fun K' hK' => ?_)
            go_simp
            obtain ⟨h0, h1, h2, h3, h4, h5, h6, h7, h8, h9, h10, h11, h12, h13, h14, h15, h16, h17, h18, h19, h20, gW⟩ := HI.out
            exact hK'.out _ _ ⟨⟨b0, b1, b2, b3, b4, b5, b6, b7, b8, b9, b10, b11, b12, b13, b14, b15, b16, b17, true, b19, b20, s7, s8, s9, s10, s11, s12, s13, s14, s15, s16, _, _, s19, s20, s21, s22, s23, _, _, s26, s6⟩, rfl, rfl, h0, h1, h2, h3, h4, h5, h6, h7, h8, h9, h10, h11, h12, h13, h14, h15, h16, h17, (fun _ => rfl), h19, h20, gW⟩
          · have hn19 : b19 = false := by revert hp; cases b19 <;> simp
            have e10 : b10 = true := by revert hp; cases b10 <;> simp
            have e18 : b18 = true := by revert hp; cases b18 <;> simp
            clear hp
            obtain rfl := (HI.out.2.2.2.2.2.2.2.2.2.2.1) e10
            obtain rfl := (HI.out.2.2.2.2.2.2.2.2.2.2.2.2.2.2.2.2.2.2.1) e18
            subst hn19
            refine inv_op (o := ⟨some 26, _, _, _, _, _⟩) rfl (fun K' hK' => ?_)
            go_simp
            obtain ⟨h0, h1, h2, h3, h4, h5, h6, h7, h8, h9, h10, h11, h12, h13, h14, h15, h16, h17, h18, h19, h20, gW⟩ := HI.out
            exact hK'.out _ _ ⟨⟨b0, b1, b2, b3, b4, b5, b6, b7, b8, b9, b10, b11, b12, b13, b14, b15, b16, b17, b18, true, b20, s7, s8, s9, s10, s11, s12, s13, s14, s15, s16, _, s18, s19, s20, s21, s22, s23, s24, _, _, s6⟩, rfl, rfl, h0, h1, h2, h3, h4, h5, h6, h7, h8, h9, h10, h11, h12, h13, h14, h15, h16, h17, h18, (fun _ => rfl), h20, gW⟩
          · have hn20 : b20 = false := by revert hp; cases b20 <;> simp
            have e19 : b19 = true := by revert hp; cases b19 <;> simp
            clear hp
            obtain rfl := (HI.out.2.2.2.2.2.2.2.2.2.2.2.2.2.2.2.2.2.2.2.1) e19
            subst hn20
            refine inv_op (o := ⟨some 6, _, _, _, _, _⟩) rfl (fun K' hK' => ?_)
            go_simp
            obtain ⟨h0, h1, h2, h3, h4, h5, h6, h7, h8, h9, h10, h11, h12, h13, h14, h15, h16, h17, h18, h19, h20, gW⟩ := HI.out
            exact hK'.out _ _ ⟨⟨b0, b1, b2, b3, b4, b5, b6, b7, b8, b9, b10, b11, b12, b13, b14, b15, b16, b17, b18, b19, true, s7, s8, s9, s10, s11, s12, s13, s14, s15, s16, s17, s18, s19, s20, s21, s22, s23, s24, s25, _, _⟩, rfl, rfl, h0, h1, h2, h3, h4, h5, h6, h7, h8, h9, h10, h11, h12, h13, h14, h15, h16, h17, h18, h19, (fun _ => rfl), gW⟩
        case hdone =>
          rintro ⟨b0, b1, b2, b3, b4, b5, b6, b7, b8, b9, b10, b11, b12, b13, b14, b15, b16, b17, b18, b19, b20, s7, s8, s9, s10, s11, s12, s13, s14, s15, s16, s17, s18, s19, s20, s21, s22, s23, s24, s25, s26, s6⟩ W hI hall
          dsimp only at hI hall ⊢
          have HI := Lib.hid hI
          clear hI
          obtain rfl : b0 = true := hall 0 (by decide)
          obtain rfl : b1 = true := hall 1 (by decide)
          obtain rfl : b2 = true := hall 2 (by decide)
          obtain rfl : b3 = true := hall 3 (by decide)
          obtain rfl : b4 = true := hall 4 (by decide)
          obtain rfl : b5 = true := hall 5 (by decide)
          obtain rfl : b6 = true := hall 6 (by decide)
          obtain rfl : b7 = true := hall 7 (by decide)
          obtain rfl : b8 = true := hall 8 (by decide)
          obtain rfl : b9 = true := hall 9 (by decide)
          obtain rfl : b10 = true := hall 10 (by decide)
          obtain rfl : b11 = true := hall 11 (by decide)
          obtain rfl : b12 = true := hall 12 (by decide)
          obtain rfl : b13 = true := hall 13 (by decide)
          obtain rfl : b14 = true := hall 14 (by decide)
          obtain rfl : b15 = true := hall 15 (by decide)
          obtain rfl : b16 = true := hall 16 (by decide)
          obtain rfl : b17 = true := hall 17 (by decide)
          obtain rfl : b18 = true := hall 18 (by decide)
          obtain rfl : b19 = true := hall 19 (by decide)
          obtain rfl : b20 = true := hall 20 (by decide)
          obtain rfl := (HI.out.2.2.2.2.2.2.2.2.2.2.2.2.2.2.2.2.2.2.2.2.1) rfl
          have gW := HI.out.2.2.2.2.2.2.2.2.2.2.2.2.2.2.2.2.2.2.2.2.2
          clear HI hall
          have GW := Lib.hid (HB.out.trans (gW.mono HB.out.size))
          clear gW
          go_wp2
          go_ret
          exact ⟨rfl, GW.out⟩
      · obtain rfl : r = false := by rw [← hr, okR, h2, hd, Bool.true_and, Bool.true_and, decide_eq_false (fun h => h3 h.1)]
        have hb3 : decide (0 ≤ b) = false := decide_eq_false h3
        clear hr h1 h2 hn hd hq hq2 hd3 h3 h2' hd4 hwd
        go_enter Try.func27, Try.ntmps27
        go_wp2_with fail
        refine wp_region_rec (X := RngCheck3) (by kernel_rfl) (by kernel_rfl) (fun x => #[x.b0, x.b1, x.b2, x.b3, x.b4, x.b5, x.b6, x.b7, x.b8, x.b9, x.b10, x.b11, x.b12, x.b13, x.b14, x.b15, x.b16, x.b17, x.b18, x.b19, x.b20]) (fun x => { tmps := #[.agg #[.slice a n c], .int .i64 b, .int .i64 z, .pointer (some ⟨w.heap.size, 0, none⟩), undef, undef, x.s6, x.s7, x.s8, x.s9, x.s10, x.s11, x.s12, x.s13, x.s14, x.s15, x.s16, x.s17, x.s18, x.s19, x.s20, x.s21, x.s22, x.s23, x.s24, x.s25, x.s26], defers := [] }) (fun x W => (x.b0 = true → x.s7 = .agg #[.slice a n c]) ∧ (x.b1 = true → x.s8 = .bool true) ∧ (x.b2 = true → x.s9 = .bool true) ∧ (x.b3 = true → x.s10 = .int .i64 z) ∧ (x.b4 = true → x.s11 = .bool true) ∧ (x.b5 = true → x.s12 = .bool true) ∧ (x.b6 = true → x.s13 = .bool true) ∧ (x.b7 = true → x.s14 = .int .i64 b) ∧ (x.b8 = true → x.s15 = .bool false) ∧ (x.b9 = true → x.s16 = .bool false) ∧ (x.b10 = true → x.s17 = .bool false) ∧ (x.b11 = true → x.s18 = undef) ∧ (x.b12 = true → x.s19 = undef) ∧ (x.b13 = true → x.s20 = undef) ∧ (x.b14 = true → x.s21 = undef) ∧ (x.b15 = true → x.s22 = undef) ∧ (x.b16 = true → x.s23 = undef) ∧ (x.b17 = true → x.s24 = undef) ∧ (x.b18 = true → x.s25 = undef) ∧ (x.b19 = true → x.s26 = .bool false) ∧ (x.b20 = true → x.s6 = .bool false) ∧ (Below (w.alloc (.cells #[.slice a n c] 28)).heap.size (w.alloc (.cells #[.slice a n c] 28)) W)) ⟨false, false, false, false, false, false, false, false, false, false, false, false, false, false, false, false, false, false, false, false, false, undef, undef, undef, undef, undef, undef, undef, undef, undef, undef, undef, undef, undef, undef, undef, undef, undef, undef, undef, undef, .bool false⟩ rfl rfl ⟨(fun h => by cases h), (fun h => by cases h), (fun h => by cases h), (fun h => by cases h), (fun h => by cases h), (fun h => by cases h), (fun h => by cases h), (fun h => by cases h), (fun h => by cases h), (fun h => by cases h), (fun h => by cases h), (fun h => by cases h), (fun h => by cases h), (fun h => by cases h), (fun h => by cases h), (fun h => by cases h), (fun h => by cases h), (fun h => by cases h), (fun h => by cases h), (fun h => by cases h), (fun h => by cases h), (Below.refl _ _).drew⟩ (fun _ => rfl) ?hstep ?hdone
        case hstep =>
          rintro ⟨b0, b1, b2, b3, b4, b5, b6, b7, b8, b9, b10, b11, b12, b13, b14, b15, b16, b17, b18, b19, b20, s7, s8, s9, s10, s11, s12, s13, s14, s15, s16, s17, s18, s19, s20, s21, s22, s23, s24, s25, s26, s6⟩ W hI i hi
          dsimp only at hI hi ⊢
          have HI := Lib.hid hI
          clear hI
          rw [Region.ready, List.mem_filter, List.mem_range] at hi
          obtain ⟨hlt, hp⟩ := hi
          have hi7 : i = 0 ∨ i = 1 ∨ i = 2 ∨ i = 3 ∨ i = 4 ∨ i = 5 ∨ i = 6 ∨ i = 7 ∨ i = 8 ∨ i = 9 ∨ i = 10 ∨ i = 11 ∨ i = 12 ∨ i = 13 ∨ i = 14 ∨ i = 15 ∨ i = 16 ∨ i = 17 ∨ i = 18 ∨ i = 19 ∨ i = 20 := by simp at hlt; omega
          clear hlt
          rcases hi7 with rfl | rfl | rfl | rfl | rfl | rfl | rfl | rfl | rfl | rfl | rfl | rfl | rfl | rfl | rfl | rfl | rfl | rfl | rfl | rfl | rfl
          all_goals simp [Region.binds] at hp
          · have hn0 : b0 = false := by revert hp; cases b0 <;> simp
            clear hp
            subst hn0
            refine inv_op (o := ⟨some 7, _, _, _, _, _⟩) rfl (fun K' hK' => ?_)
            have gW := HI.out.2.2.2.2.2.2.2.2.2.2.2.2.2.2.2.2.2.2.2.2.2
            obtain ⟨hc1, hc2⟩ := HM.out W gW
            go_simp
            obtain ⟨h0, h1, h2, h3, h4, h5, h6, h7, h8, h9, h10, h11, h12, h13, h14, h15, h16, h17, h18, h19, h20, gW⟩ := HI.out
            exact hK'.out _ _ ⟨⟨true, b1, b2, b3, b4, b5, b6, b7, b8, b9, b10, b11, b12, b13, b14, b15, b16, b17, b18, b19, b20, _, s8, s9, s10, s11, s12, s13, s14, s15, s16, s17, s18, s19, s20, s21, s22, s23, s24, s25, s26, s6⟩, rfl, rfl, (fun _ => rfl), h1, h2, h3, h4, h5, h6, h7, h8, h9, h10, h11, h12, h13, h14, h15, h16, h17, h18, h19, h20, gW⟩
          · have hn1 : b1 = false := by revert hp; cases b1 <;> simp
            have e0 : b0 = true := by revert hp; cases b0 <;> simp
            clear hp
            obtain rfl := (HI.out.1) e0
            subst hn1
            refine inv_op (o := ⟨some 8, _, _, _, _, _⟩) rfl (fun K' hK' => ?_)
            have gW := HI.out.2.2.2.2.2.2.2.2.2.2.2.2.2.2.2.2.2.2.2.2.2
            go_simp
            refine (HC.out W gW).mono ?_
            rintro e w1 ⟨rfl, bn⟩
            obtain ⟨h0, h1, h2, h3, h4, h5, h6, h7, h8, h9, h10, h11, h12, h13, h14, h15, h16, h17, h18, h19, h20, gW⟩ := HI.out
            exact hK'.out _ _ ⟨⟨b0, true, b2, b3, b4, b5, b6, b7, b8, b9, b10, b11, b12, b13, b14, b15, b16, b17, b18, b19, b20, _, _, s9, s10, s11, s12, s13, s14, s15, s16, s17, s18, s19, s20, s21, s22, s23, s24, s25, s26, s6⟩, rfl, rfl, h0, (fun _ => rfl), h2, h3, h4, h5, h6, h7, h8, h9, h10, h11, h12, h13, h14, h15, h16, h17, h18, h19, h20, (gW.trans (bn.mono gW.size))⟩
          · have hn2 : b2 = false := by revert hp; cases b2 <;> simp
            have e1 : b1 = true := by revert hp; cases b1 <;> simp
            clear hp
            obtain rfl := (HI.out.2.1) e1
            subst hn2
            refine inv_op (o := ⟨some 9, _, _, _, _, _⟩) rfl (fun K' hK' => ?_)
            go_simp
            obtain ⟨h0, h1, h2, h3, h4, h5, h6, h7, h8, h9, h10, h11, h12, h13, h14, h15, h16, h17, h18, h19, h20, gW⟩ := HI.out
            exact hK'.out _ _ ⟨⟨b0, b1, true, b3, b4, b5, b6, b7, b8, b9, b10, b11, b12, b13, b14, b15, b16, b17, b18, b19, b20, s7, _, _, s10, s11, s12, s13, s14, s15, s16, s17, s18, s19, s20, s21, s22, s23, s24, s25, s26, s6⟩, rfl, rfl, h0, h1, (fun _ => rfl), h3, h4, h5, h6, h7, h8, h9, h10, h11, h12, h13, h14, h15, h16, h17, h18, h19, h20, gW⟩
          · have hn3 : b3 = false := by revert hp; cases b3 <;> simp
            have e2 : b2 = true := by revert hp; cases b2 <;> simp
            clear hp
            obtain rfl := (HI.out.2.2.1) e2
            subst hn3
            refine inv_op (o := ⟨some 10, _, _, _, _, _⟩) rfl (fun K' hK' => ?_)
            go_simp
            obtain ⟨h0, h1, h2, h3, h4, h5, h6, h7, h8, h9, h10, h11, h12, h13, h14, h15, h16, h17, h18, h19, h20, gW⟩ := HI.out
            exact hK'.out _ _ ⟨⟨b0, b1, b2, true, b4, b5, b6, b7, b8, b9, b10, b11, b12, b13, b14, b15, b16, b17, b18, b19, b20, s7, s8, _, _, s11, s12, s13, s14, s15, s16, s17, s18, s19, s20, s21, s22, s23, s24, s25, s26, s6⟩, rfl, rfl, h0, h1, h2, (fun _ => rfl), h4, h5, h6, h7, h8, h9, h10, h11, h12, h13, h14, h15, h16, h17, h18, h19, h20, gW⟩
          · have hn4 : b4 = false := by revert hp; cases b4 <;> simp
            have e3 : b3 = true := by revert hp; cases b3 <;> simp
            have e2 : b2 = true := by revert hp; cases b2 <;> simp
            clear hp
            obtain rfl := (HI.out.2.2.2.1) e3
            obtain rfl := (HI.out.2.2.1) e2
            subst hn4
            refine inv_op (o := ⟨some 11, _, _, _, _, _⟩) rfl (fun K' hK' => ?_)
            go_simp
            refine (HS.out W).mono ?_
            rintro e w1 ⟨rfl, rfl⟩
            obtain ⟨h0, h1, h2, h3, h4, h5, h6, h7, h8, h9, h10, h11, h12, h13, h14, h15, h16, h17, h18, h19, h20, gW⟩ := HI.out
            exact hK'.out _ _ ⟨⟨b0, b1, b2, b3, true, b5, b6, b7, b8, b9, b10, b11, b12, b13, b14, b15, b16, b17, b18, b19, b20, s7, s8, _, _, _, s12, s13, s14, s15, s16, s17, s18, s19, s20, s21, s22, s23, s24, s25, s26, s6⟩, rfl, rfl, h0, h1, h2, h3, (fun _ => rfl), h5, h6, h7, h8, h9, h10, h11, h12, h13, h14, h15, h16, h17, h18, h19, h20, gW⟩
          · have hn5 : b5 = false := by revert hp; cases b5 <;> simp
            have e2 : b2 = true := by revert hp; cases b2 <;> simp
            have e4 : b4 = true := by revert hp; cases b4 <;> simp
            clear hp
            obtain rfl := (HI.out.2.2.1) e2
            obtain rfl := (HI.out.2.2.2.2.1) e4
            subst hn5
            refine inv_op (o := ⟨some 12, _, _, _, _, _⟩) rfl (fun K' hK' => ?_)
            go_simp
            obtain ⟨h0, h1, h2, h3, h4, h5, h6, h7, h8, h9, h10, h11, h12, h13, h14, h15, h16, h17, h18, h19, h20, gW⟩ := HI.out
            exact hK'.out _ _ ⟨⟨b0, b1, b2, b3, b4, true, b6, b7, b8, b9, b10, b11, b12, b13, b14, b15, b16, b17, b18, b19, b20, s7, s8, _, s10, _, _, s13, s14, s15, s16, s17, s18, s19, s20, s21, s22, s23, s24, s25, s26, s6⟩, rfl, rfl, h0, h1, h2, h3, h4, (fun _ => rfl), h6, h7, h8, h9, h10, h11, h12, h13, h14, h15, h16, h17, h18, h19, h20, gW⟩
          · have hn6 : b6 = false := by revert hp; cases b6 <;> simp
            have e5 : b5 = true := by revert hp; cases b5 <;> simp
            clear hp
            obtain rfl := (HI.out.2.2.2.2.2.1) e5
            subst hn6
            refine inv_op (o := ⟨some 13, _, _, _, _, _⟩) rfl (fun K' hK' => ?_)
            go_simp
            obtain ⟨h0, h1, h2, h3, h4, h5, h6, h7, h8, h9, h10, h11, h12, h13, h14, h15, h16, h17, h18, h19, h20, gW⟩ := HI.out
            exact hK'.out _ _ ⟨⟨b0, b1, b2, b3, b4, b5, true, b7, b8, b9, b10, b11, b12, b13, b14, b15, b16, b17, b18, b19, b20, s7, s8, s9, s10, s11, _, _, s14, s15, s16, s17, s18, s19, s20, s21, s22, s23, s24, s25, s26, s6⟩, rfl, rfl, h0, h1, h2, h3, h4, h5, (fun _ => rfl), h7, h8, h9, h10, h11, h12, h13, h14, h15, h16, h17, h18, h19, h20, gW⟩
          · have hn7 : b7 = false := by revert hp; cases b7 <;> simp
            have e6 : b6 = true := by revert hp; cases b6 <;> simp
            clear hp
            obtain rfl := (HI.out.2.2.2.2.2.2.1) e6
            subst hn7
            refine inv_op (o := ⟨some 14, _, _, _, _, _⟩) rfl (fun K' hK' => ?_)
            go_simp
            obtain ⟨h0, h1, h2, h3, h4, h5, h6, h7, h8, h9, h10, h11, h12, h13, h14, h15, h16, h17, h18, h19, h20, gW⟩ := HI.out
            exact hK'.out _ _ ⟨⟨b0, b1, b2, b3, b4, b5, b6, true, b8, b9, b10, b11, b12, b13, b14, b15, b16, b17, b18, b19, b20, s7, s8, s9, s10, s11, s12, _, _, s15, s16, s17, s18, s19, s20, s21, s22, s23, s24, s25, s26, s6⟩, rfl, rfl, h0, h1, h2, h3, h4, h5, h6, (fun _ => rfl), h8, h9, h10, h11, h12, h13, h14, h15, h16, h17, h18, h19, h20, gW⟩
          · have hn8 : b8 = false := by revert hp; cases b8 <;> simp
            have e7 : b7 = true := by revert hp; cases b7 <;> simp
            have e6 : b6 = true := by revert hp; cases b6 <;> simp
            clear hp
            obtain rfl := (HI.out.2.2.2.2.2.2.2.1) e7
            obtain rfl := (HI.out.2.2.2.2.2.2.1) e6
            subst hn8
            refine inv_op (o := ⟨some 15, _, _, _, _, _⟩) rfl (fun K' hK' => ?_)
            go_simp
            obtain ⟨h0, h1, h2, h3, h4, h5, h6, h7, h8, h9, h10, h11, h12, h13, h14, h15, h16, h17, h18, h19, h20, gW⟩ := HI.out
            exact hK'.out _ _ ⟨⟨b0, b1, b2, b3, b4, b5, b6, b7, true, b9, b10, b11, b12, b13, b14, b15, b16, b17, b18, b19, b20, s7, s8, s9, s10, s11, s12, _, _, _, s16, s17, s18, s19, s20, s21, s22, s23, s24, s25, s26, s6⟩, rfl, rfl, h0, h1, h2, h3, h4, h5, h6, h7, (fun _ => rfl), h9, h10, h11, h12, h13, h14, h15, h16, h17, h18, h19, h20, gW⟩
          · have hn9 : b9 = false := by revert hp; cases b9 <;> simp
            have e6 : b6 = true := by revert hp; cases b6 <;> simp
            have e8 : b8 = true := by revert hp; cases b8 <;> simp
            clear hp
            obtain rfl := (HI.out.2.2.2.2.2.2.1) e6
            obtain rfl := (HI.out.2.2.2.2.2.2.2.2.1) e8
            subst hn9
            refine inv_op (o := ⟨some 16, _, _, _, _, _⟩) rfl (fun K' hK' => ?_)
            go_simp
            obtain ⟨h0, h1, h2, h3, h4, h5, h6, h7, h8, h9, h10, h11, h12, h13, h14, h15, h16, h17, h18, h19, h20, gW⟩ := HI.out
            exact hK'.out _ _ ⟨⟨b0, b1, b2, b3, b4, b5, b6, b7, b8, true, b10, b11, b12, b13, b14, b15, b16, b17, b18, b19, b20, s7, s8, s9, s10, s11, s12, _, s14, _, _, s17, s18, s19, s20, s21, s22, s23, s24, s25, s26, s6⟩, rfl, rfl, h0, h1, h2, h3, h4, h5, h6, h7, h8, (fun _ => rfl), h10, h11, h12, h13, h14, h15, h16, h17, h18, h19, h20, gW⟩
          · have hn10 : b10 = false := by revert hp; cases b10 <;> simp
            have e9 : b9 = true := by revert hp; cases b9 <;> simp
            clear hp
            obtain rfl := (HI.out.2.2.2.2.2.2.2.2.2.1) e9
            subst hn10
            refine inv_op (o := ⟨some 17, _, _, _, _, _⟩) rfl (fun K' hK' => ?_)
            go_simp
            obtain ⟨h0, h1, h2, h3, h4, h5, h6, h7, h8, h9, h10, h11, h12, h13, h14, h15, h16, h17, h18, h19, h20, gW⟩ := HI.out
            exact hK'.out _ _ ⟨⟨b0, b1, b2, b3, b4, b5, b6, b7, b8, b9, true, b11, b12, b13, b14, b15, b16, b17, b18, b19, b20, s7, s8, s9, s10, s11, s12, s13, s14, s15, _, _, s18, s19, s20, s21, s22, s23, s24, s25, s26, s6⟩, rfl, rfl, h0, h1, h2, h3, h4, h5, h6, h7, h8, h9, (fun _ => rfl), h11, h12, h13, h14, h15, h16, h17, h18, h19, h20, gW⟩
          · have hn11 : b11 = false := by revert hp; cases b11 <;> simp
            have e10 : b10 = true := by revert hp; cases b10 <;> simp
            clear hp
            obtain rfl := (HI.out.2.2.2.2.2.2.2.2.2.2.1) e10
            subst hn11
            refine inv_op (o := ⟨some 18, _, _, _, _, _⟩) rfl (fun K' hK' => ?_)
            go_simp
            obtain ⟨h0, h1, h2, h3, h4, h5, h6, h7, h8, h9, h10, h11, h12, h13, h14, h15, h16, h17, h18, h19, h20, gW⟩ := HI.out
            exact hK'.out _ _ ⟨⟨b0, b1, b2, b3, b4, b5, b6, b7, b8, b9, b10, true, b12, b13, b14, b15, b16, b17, b18, b19, b20, s7, s8, s9, s10, s11, s12, s13, s14, s15, s16, _, _, s19, s20, s21, s22, s23, s24, s25, s26, s6⟩, rfl, rfl, h0, h1, h2, h3, h4, h5, h6, h7, h8, h9, h10, (fun _ => rfl), h12, h13, h14, h15, h16, h17, h18, h19, h20, gW⟩
          · have hn12 : b12 = false := by revert hp; cases b12 <;> simp
            have e10 : b10 = true := by revert hp; cases b10 <;> simp
            clear hp
            obtain rfl := (HI.out.2.2.2.2.2.2.2.2.2.2.1) e10
            subst hn12
            refine inv_op (o := ⟨some 19, _, _, _, _, _⟩) rfl (fun K' hK' => ?_)
            go_simp
            obtain ⟨h0, h1, h2, h3, h4, h5, h6, h7, h8, h9, h10, h11, h12, h13, h14, h15, h16, h17, h18, h19, h20, gW⟩ := HI.out
            exact hK'.out _ _ ⟨⟨b0, b1, b2, b3, b4, b5, b6, b7, b8, b9, b10, b11, true, b13, b14, b15, b16, b17, b18, b19, b20, s7, s8, s9, s10, s11, s12, s13, s14, s15, s16, _, s18, _, s20, s21, s22, s23, s24, s25, s26, s6⟩, rfl, rfl, h0, h1, h2, h3, h4, h5, h6, h7, h8, h9, h10, h11, (fun _ => rfl), h13, h14, h15, h16, h17, h18, h19, h20, gW⟩
          · have hn13 : b13 = false := by revert hp; cases b13 <;> simp
            have e12 : b12 = true := by revert hp; cases b12 <;> simp
            have e10 : b10 = true := by revert hp; cases b10 <;> simp
            clear hp
            obtain rfl := (HI.out.2.2.2.2.2.2.2.2.2.2.2.2.1) e12
            obtain rfl := (HI.out.2.2.2.2.2.2.2.2.2.2.1) e10
            subst hn13
            refine inv_op (o := ⟨some 20, _, _, _, _, _⟩) rfl (fun K' hK' => ?_)
            go_simp
            obtain ⟨h0, h1, h2, h3, h4, h5, h6, h7, h8, h9, h10, h11, h12, h13, h14, h15, h16, h17, h18, h19, h20, gW⟩ := HI.out
            exact hK'.out _ _ ⟨⟨b0, b1, b2, b3, b4, b5, b6, b7, b8, b9, b10, b11, b12, true, b14, b15, b16, b17, b18, b19, b20, s7, s8, s9, s10, s11, s12, s13, s14, s15, s16, _, s18, _, _, s21, s22, s23, s24, s25, s26, s6⟩, rfl, rfl, h0, h1, h2, h3, h4, h5, h6, h7, h8, h9, h10, h11, h12, (fun _ => rfl), h14, h15, h16, h17, h18, h19, h20, gW⟩
          · have hn14 : b14 = false := by revert hp; cases b14 <;> simp
            have e13 : b13 = true := by revert hp; cases b13 <;> simp
            have e10 : b10 = true := by revert hp; cases b10 <;> simp
            clear hp
            obtain rfl := (HI.out.2.2.2.2.2.2.2.2.2.2.2.2.2.1) e13
            obtain rfl := (HI.out.2.2.2.2.2.2.2.2.2.2.1) e10
            subst hn14
            refine inv_op (o := ⟨some 21, _, _, _, _, _⟩) rfl (fun K' hK' => ?_)
            go_simp
            obtain ⟨h0, h1, h2, h3, h4, h5, h6, h7, h8, h9, h10, h11, h12, h13, h14, h15, h16, h17, h18, h19, h20, gW⟩ := HI.out
            exact hK'.out _ _ ⟨⟨b0, b1, b2, b3, b4, b5, b6, b7, b8, b9, b10, b11, b12, b13, true, b15, b16, b17, b18, b19, b20, s7, s8, s9, s10, s11, s12, s13, s14, s15, s16, _, s18, s19, _, _, s22, s23, s24, s25, s26, s6⟩, rfl, rfl, h0, h1, h2, h3, h4, h5, h6, h7, h8, h9, h10, h11, h12, h13, (fun _ => rfl), h15, h16, h17, h18, h19, h20, gW⟩
          · have hn15 : b15 = false := by revert hp; cases b15 <;> simp
            have e10 : b10 = true := by revert hp; cases b10 <;> simp
            clear hp
            obtain rfl := (HI.out.2.2.2.2.2.2.2.2.2.2.1) e10
            subst hn15
            refine inv_op (o := ⟨some 22, _, _, _, _, _⟩) rfl (fun K' hK' => ?_)
            go_simp
            obtain ⟨h0, h1, h2, h3, h4, h5, h6, h7, h8, h9, h10, h11, h12, h13, h14, h15, h16, h17, h18, h19, h20, gW⟩ := HI.out
            exact hK'.out _ _ ⟨⟨b0, b1, b2, b3, b4, b5, b6, b7, b8, b9, b10, b11, b12, b13, b14, true, b16, b17, b18, b19, b20, s7, s8, s9, s10, s11, s12, s13, s14, s15, s16, _, s18, s19, s20, s21, _, s23, s24, s25, s26, s6⟩, rfl, rfl, h0, h1, h2, h3, h4, h5, h6, h7, h8, h9, h10, h11, h12, h13, h14, (fun _ => rfl), h16, h17, h18, h19, h20, gW⟩
          · have hn16 : b16 = false := by revert hp; cases b16 <;> simp
            have e15 : b15 = true := by revert hp; cases b15 <;> simp
            have e10 : b10 = true := by revert hp; cases b10 <;> simp
            clear hp
            obtain rfl := (HI.out.2.2.2.2.2.2.2.2.2.2.2.2.2.2.2.1) e15
            obtain rfl := (HI.out.2.2.2.2.2.2.2.2.2.2.1) e10
            subst hn16
            refine inv_op (o := ⟨some 23, _, _, _, _, _⟩) rfl (fun K' hK' => ?_)
            go_simp
            obtain ⟨h0, h1, h2, h3, h4, h5, h6, h7, h8, h9, h10, h11, h12, h13, h14, h15, h16, h17, h18, h19, h20, gW⟩ := HI.out
            exact hK'.out _ _ ⟨⟨b0, b1, b2, b3, b4, b5, b6, b7, b8, b9, b10, b11, b12, b13, b14, b15, true, b17, b18, b19, b20, s7, s8, s9, s10, s11, s12, s13, s14, s15, s16, _, s18, s19, s20, s21, _, _, s24, s25, s26, s6⟩, rfl, rfl, h0, h1, h2, h3, h4, h5, h6, h7, h8, h9, h10, h11, h12, h13, h14, h15, (fun _ => rfl), h17, h18, h19, h20, gW⟩
          · have hn17 : b17 = false := by revert hp; cases b17 <;> simp
            have e14 : b14 = true := by revert hp; cases b14 <;> simp
            have e16 : b16 = true := by revert hp; cases b16 <;> simp
            have e10 : b10 = true := by revert hp; cases b10 <;> simp
            clear hp
            obtain rfl := (HI.out.2.2.2.2.2.2.2.2.2.2.2.2.2.2.1) e14
            obtain rfl := (HI.out.2.2.2.2.2.2.2.2.2.2.2.2.2.2.2.2.1) e16
            obtain rfl := (HI.out.2.2.2.2.2.2.2.2.2.2.1) e10
            subst hn17
            refine inv_op (o := ⟨some 24, _, _, _, _, _⟩) rfl (fun K' hK' => ?_)
            go_simp
            obtain ⟨h0, h1, h2, h3, h4, h5, h6, h7, h8, h9, h10, h11, h12, h13, h14, h15, h16, h17, h18, h19, h20, gW⟩ := HI.out
            exact hK'.out _ _ ⟨⟨b0, b1, b2, b3, b4, b5, b6, b7, b8, b9, b10, b11, b12, b13, b14, b15, b16, true, b18, b19, b20, s7, s8, s9, s10, s11, s12, s13, s14, s15, s16, _, s18, s19, s20, _, s22, _, _, s25, s26, s6⟩, rfl, rfl, h0, h1, h2, h3, h4, h5, h6, h7, h8, h9, h10, h11, h12, h13, h14, h15, h16, (fun _ => rfl), h18, h19, h20, gW⟩
          · have hn18 : b18 = false := by revert hp; cases b18 <;> simp
            have e11 : b11 = true := by revert hp; cases b11 <;> simp
            have e17 : b17 = true := by revert hp; cases b17 <;> simp
            have e10 : b10 = true := by revert hp; cases b10 <;> simp
            clear hp
            obtain rfl := (HI.out.2.2.2.2.2.2.2.2.2.2.2.1) e11
            obtain rfl := (HI.out.2.2.2.2.2.2.2.2.2.2.2.2.2.2.2.2.2.1) e17
            obtain rfl := (HI.out.2.2.2.2.2.2.2.2.2.2.1) e10
            subst hn18
            refine inv_op (o := ⟨some 25, _, _, _, _, _⟩) rfl (fun K' hK' => ?_)
            go_simp
            obtain ⟨h0, h1, h2, h3, h4, h5, h6, h7, h8, h9, h10, h11, h12, h13, h14, h15, h16, h17, h18, h19, h20, gW⟩ := HI.out
            exact hK'.out _ _ ⟨⟨b0, b1, b2, b3, b4, b5, b6, b7, b8, b9, b10, b11, b12, b13, b14, b15, b16, b17, true, b19, b20, s7, s8, s9, s10, s11, s12, s13, s14, s15, s16, _, _, s19, s20, s21, s22, s23, _, _, s26, s6⟩, rfl, rfl, h0, h1, h2, h3, h4, h5, h6, h7, h8, h9, h10, h11, h12, h13, h14, h15, h16, h17, (fun _ => rfl), h19, h20, gW⟩
          · have hn19 : b19 = false := by revert hp; cases b19 <;> simp
            have e10 : b10 = true := by revert hp; cases b10 <;> simp
            have e18 : b18 = true := by revert hp; cases b18 <;> simp
            clear hp
            obtain rfl := (HI.out.2.2.2.2.2.2.2.2.2.2.1) e10
            obtain rfl := (HI.out.2.2.2.2.2.2.2.2.2.2.2.2.2.2.2.2.2.2.1) e18
            subst hn19
            refine inv_op (o := ⟨some 26, _, _, _, _, _⟩) rfl (fun K' hK' => ?_)
            go_simp
            obtain ⟨h0, h1, h2, h3, h4, h5, h6, h7, h8, h9, h10, h11, h12, h13, h14, h15, h16, h17, h18, h19, h20, gW⟩ := HI.out
            exact hK'.out _ _ ⟨⟨b0, b1, b2, b3, b4, b5, b6, b7, b8, b9, b10, b11, b12, b13, b14, b15, b16, b17, b18, true, b20, s7, s8, s9, s10, s11, s12, s13, s14, s15, s16, _, s18, s19, s20, s21, s22, s23, s24, _, _, s6⟩, rfl, rfl, h0, h1, h2, h3, h4, h5, h6, h7, h8, h9, h10, h11, h12, h13, h14, h15, h16, h17, h18, (fun _ => rfl), h20, gW⟩
          · have hn20 : b20 = false := by revert hp; cases b20 <;> simp
            have e19 : b19 = true := by revert hp; cases b19 <;> simp
            clear hp
            obtain rfl := (HI.out.2.2.2.2.2.2.2.2.2.2.2.2.2.2.2.2.2.2.2.1) e19
            subst hn20
            refine inv_op (o := ⟨some 6, _, _, _, _, _⟩) rfl (fun K' hK' => ?_)
            go_simp
            obtain ⟨h0, h1, h2, h3, h4, h5, h6, h7, h8, h9, h10, h11, h12, h13, h14, h15, h16, h17, h18, h19, h20, gW⟩ := HI.out
            exact hK'.out _ _ ⟨⟨b0, b1, b2, b3, b4, b5, b6, b7, b8, b9, b10, b11, b12, b13, b14, b15, b16, b17, b18, b19, true, s7, s8, s9, s10, s11, s12, s13, s14, s15, s16, s17, s18, s19, s20, s21, s22, s23, s24, s25, _, _⟩, rfl, rfl, h0, h1, h2, h3, h4, h5, h6, h7, h8, h9, h10, h11, h12, h13, h14, h15, h16, h17, h18, h19, (fun _ => rfl), gW⟩
        case hdone =>
          rintro ⟨b0, b1, b2, b3, b4, b5, b6, b7, b8, b9, b10, b11, b12, b13, b14, b15, b16, b17, b18, b19, b20, s7, s8, s9, s10, s11, s12, s13, s14, s15, s16, s17, s18, s19, s20, s21, s22, s23, s24, s25, s26, s6⟩ W hI hall
          dsimp only at hI hall ⊢
          have HI := Lib.hid hI
          clear hI
          obtain rfl : b0 = true := hall 0 (by decide)
          obtain rfl : b1 = true := hall 1 (by decide)
          obtain rfl : b2 = true := hall 2 (by decide)
          obtain rfl : b3 = true := hall 3 (by decide)
          obtain rfl : b4 = true := hall 4 (by decide)
          obtain rfl : b5 = true := hall 5 (by decide)
          obtain rfl : b6 = true := hall 6 (by decide)
          obtain rfl : b7 = true := hall 7 (by decide)
          obtain rfl : b8 = true := hall 8 (by decide)
          obtain rfl : b9 = true := hall 9 (by decide)
          obtain rfl : b10 = true := hall 10 (by decide)
          obtain rfl : b11 = true := hall 11 (by decide)
          obtain rfl : b12 = true := hall 12 (by decide)
          obtain rfl : b13 = true := hall 13 (by decide)
          obtain rfl : b14 = true := hall 14 (by decide)
          obtain rfl : b15 = true := hall 15 (by decide)
          obtain rfl : b16 = true := hall 16 (by decide)
          obtain rfl : b17 = true := hall 17 (by decide)
          obtain rfl : b18 = true := hall 18 (by decide)
          obtain rfl : b19 = true := hall 19 (by decide)
          obtain rfl : b20 = true := hall 20 (by decide)
          obtain rfl := (HI.out.2.2.2.2.2.2.2.2.2.2.2.2.2.2.2.2.2.2.2.2.1) rfl
          have gW := HI.out.2.2.2.2.2.2.2.2.2.2.2.2.2.2.2.2.2.2.2.2.2
          clear HI hall
          have GW := Lib.hid (HB.out.trans (gW.mono HB.out.size))
          clear gW
          go_wp2
          go_ret
          exact ⟨rfl, GW.out⟩
  · obtain rfl : r = false := by rw [← hr, okR, decide_eq_false h1, Bool.false_and]
    have hd := decide_eq_false h1
    have HC := Lib.hid (show ∀ W, Below (w.alloc (.cells #[.slice a n c] 28)).heap.size (w.alloc (.cells #[.slice a n c] 28)) W → Calls Try.prog 48 #[.agg #[.slice a n c]] W fun e w' => e = .returned (.bool false) ∧ Below W.heap.size W w' from fun W _ => check_any a n c HN.out false (by rw [hd]) W)
    clear hr h1 hn hd
    go_enter Try.func27, Try.ntmps27
    go_wp2_with fail
    refine wp_region_rec (X := RngCheck1) (by kernel_rfl) (by kernel_rfl) (fun x => #[x.b0, x.b1, x.b2, x.b3, x.b4, x.b5, x.b6, x.b7, x.b8, x.b9, x.b10, x.b11, x.b12, x.b13, x.b14, x.b15, x.b16, x.b17, x.b18, x.b19, x.b20]) (fun x => { tmps := #[.agg #[.slice a n c], .int .i64 b, .int .i64 z, .pointer (some ⟨w.heap.size, 0, none⟩), undef, undef, x.s6, x.s7, x.s8, x.s9, x.s10, x.s11, x.s12, x.s13, x.s14, x.s15, x.s16, x.s17, x.s18, x.s19, x.s20, x.s21, x.s22, x.s23, x.s24, x.s25, x.s26], defers := [] }) (fun x W => (x.b0 = true → x.s7 = .agg #[.slice a n c]) ∧ (x.b1 = true → x.s8 = .bool false) ∧ (x.b2 = true → x.s9 = .bool false) ∧ (x.b3 = true → x.s10 = undef) ∧ (x.b4 = true → x.s11 = undef) ∧ (x.b5 = true → x.s12 = .bool false) ∧ (x.b6 = true → x.s13 = .bool false) ∧ (x.b7 = true → x.s14 = undef) ∧ (x.b8 = true → x.s15 = undef) ∧ (x.b9 = true → x.s16 = .bool false) ∧ (x.b10 = true → x.s17 = .bool false) ∧ (x.b11 = true → x.s18 = undef) ∧ (x.b12 = true → x.s19 = undef) ∧ (x.b13 = true → x.s20 = undef) ∧ (x.b14 = true → x.s21 = undef) ∧ (x.b15 = true → x.s22 = undef) ∧ (x.b16 = true → x.s23 = undef) ∧ (x.b17 = true → x.s24 = undef) ∧ (x.b18 = true → x.s25 = undef) ∧ (x.b19 = true → x.s26 = .bool false) ∧ (x.b20 = true → x.s6 = .bool false) ∧ (Below (w.alloc (.cells #[.slice a n c] 28)).heap.size (w.alloc (.cells #[.slice a n c] 28)) W)) ⟨false, false, false, false, false, false, false, false, false, false, false, false, false, false, false, false, false, false, false, false, false, undef, undef, undef, undef, undef, undef, undef, undef, undef, undef, undef, undef, undef, undef, undef, undef, undef, undef, undef, undef, .bool false⟩ rfl rfl ⟨(fun h => by cases h), (fun h => by cases h), (fun h => by cases h), (fun h => by cases h), (fun h => by cases h), (fun h => by cases h), (fun h => by cases h), (fun h => by cases h), (fun h => by cases h), (fun h => by cases h), (fun h => by cases h), (fun h => by cases h), (fun h => by cases h), (fun h => by cases h), (fun h => by cases h), (fun h => by cases h), (fun h => by cases h), (fun h => by cases h), (fun h => by cases h), (fun h => by cases h), (fun h => by cases h), (Below.refl _ _).drew⟩ (fun _ => rfl) ?hstep ?hdone
    case hstep =>
      rintro ⟨b0, b1, b2, b3, b4, b5, b6, b7, b8, b9, b10, b11, b12, b13, b14, b15, b16, b17, b18, b19, b20, s7, s8, s9, s10, s11, s12, s13, s14, s15, s16, s17, s18, s19, s20, s21, s22, s23, s24, s25, s26, s6⟩ W hI i hi
      dsimp only at hI hi ⊢
      have HI := Lib.hid hI
      clear hI
      rw [Region.ready, List.mem_filter, List.mem_range] at hi
      obtain ⟨hlt, hp⟩ := hi
      have hi7 : i = 0 ∨ i = 1 ∨ i = 2 ∨ i = 3 ∨ i = 4 ∨ i = 5 ∨ i = 6 ∨ i = 7 ∨ i = 8 ∨ i = 9 ∨ i = 10 ∨ i = 11 ∨ i = 12 ∨ i = 13 ∨ i = 14 ∨ i = 15 ∨ i = 16 ∨ i = 17 ∨ i = 18 ∨ i = 19 ∨ i = 20 := by simp at hlt; omega
      clear hlt
      rcases hi7 with rfl | rfl | rfl | rfl | rfl | rfl | rfl | rfl | rfl | rfl | rfl | rfl | rfl | rfl | rfl | rfl | rfl | rfl | rfl | rfl | rfl
      all_goals simp [Region.binds] at hp
      · have hn0 : b0 = false := by revert hp; cases b0 <;> simp
        clear hp
        subst hn0
        refine inv_op (o := ⟨some 7, _, _, _, _, _⟩) rfl (fun K' hK' => ?_)
        have gW := HI.out.2.2.2.2.2.2.2.2.2.2.2.2.2.2.2.2.2.2.2.2.2
        obtain ⟨hc1, hc2⟩ := HM.out W gW
        go_simp
        obtain ⟨h0, h1, h2, h3, h4, h5, h6, h7, h8, h9, h10, h11, h12, h13, h14, h15, h16, h17, h18, h19, h20, gW⟩ := HI.out
        exact hK'.out _ _ ⟨⟨true, b1, b2, b3, b4, b5, b6, b7, b8, b9, b10, b11, b12, b13, b14, b15, b16, b17, b18, b19, b20, _, s8, s9, s10, s11, s12, s13, s14, s15, s16, s17, s18, s19, s20, s21, s22, s23, s24, s25, s26, s6⟩, rfl, rfl, (fun _ => rfl), h1, h2, h3, h4, h5, h6, h7, h8, h9, h10, h11, h12, h13, h14, h15, h16, h17, h18, h19, h20, gW⟩
      · have hn1 : b1 = false := by revert hp; cases b1 <;> simp
        have e0 : b0 = true := by revert hp; cases b0 <;> simp
        clear hp
        obtain rfl := (HI.out.1) e0
        subst hn1
        refine inv_op (o := ⟨some 8, _, _, _, _, _⟩) rfl (fun K' hK' => ?_)
        have gW := HI.out.2.2.2.2.2.2.2.2.2.2.2.2.2.2.2.2.2.2.2.2.2
        go_simp
        refine (HC.out W gW).mono ?_
        rintro e w1 ⟨rfl, bn⟩
        obtain ⟨h0, h1, h2, h3, h4, h5, h6, h7, h8, h9, h10, h11, h12, h13, h14, h15, h16, h17, h18, h19, h20, gW⟩ := HI.out
        exact hK'.out _ _ ⟨⟨b0, true, b2, b3, b4, b5, b6, b7, b8, b9, b10, b11, b12, b13, b14, b15, b16, b17, b18, b19, b20, _, _, s9, s10, s11, s12, s13, s14, s15, s16, s17, s18, s19, s20, s21, s22, s23, s24, s25, s26, s6⟩, rfl, rfl, h0, (fun _ => rfl), h2, h3, h4, h5, h6, h7, h8, h9, h10, h11, h12, h13, h14, h15, h16, h17, h18, h19, h20, (gW.trans (bn.mono gW.size))⟩
      · have hn2 : b2 = false := by revert hp; cases b2 <;> simp
        have e1 : b1 = true := by revert hp; cases b1 <;> simp
        clear hp
        obtain rfl := (HI.out.2.1) e1
        subst hn2
        refine inv_op (o := ⟨some 9, _, _, _, _, _⟩) rfl (fun K' hK' => ?_)
        go_simp
        obtain ⟨h0, h1, h2, h3, h4, h5, h6, h7, h8, h9, h10, h11, h12, h13, h14, h15, h16, h17, h18, h19, h20, gW⟩ := HI.out
        exact hK'.out _ _ ⟨⟨b0, b1, true, b3, b4, b5, b6, b7, b8, b9, b10, b11, b12, b13, b14, b15, b16, b17, b18, b19, b20, s7, _, _, s10, s11, s12, s13, s14, s15, s16, s17, s18, s19, s20, s21, s22, s23, s24, s25, s26, s6⟩, rfl, rfl, h0, h1, (fun _ => rfl), h3, h4, h5, h6, h7, h8, h9, h10, h11, h12, h13, h14, h15, h16, h17, h18, h19, h20, gW⟩
      · have hn3 : b3 = false := by revert hp; cases b3 <;> simp
        have e2 : b2 = true := by revert hp; cases b2 <;> simp
        clear hp
        obtain rfl := (HI.out.2.2.1) e2
        subst hn3
        refine inv_op (o := ⟨some 10, _, _, _, _, _⟩) rfl (fun K' hK' => ?_)
        go_simp
        obtain ⟨h0, h1, h2, h3, h4, h5, h6, h7, h8, h9, h10, h11, h12, h13, h14, h15, h16, h17, h18, h19, h20, gW⟩ := HI.out
        exact hK'.out _ _ ⟨⟨b0, b1, b2, true, b4, b5, b6, b7, b8, b9, b10, b11, b12, b13, b14, b15, b16, b17, b18, b19, b20, s7, s8, _, _, s11, s12, s13, s14, s15, s16, s17, s18, s19, s20, s21, s22, s23, s24, s25, s26, s6⟩, rfl, rfl, h0, h1, h2, (fun _ => rfl), h4, h5, h6, h7, h8, h9, h10, h11, h12, h13, h14, h15, h16, h17, h18, h19, h20, gW⟩
      · have hn4 : b4 = false := by revert hp; cases b4 <;> simp
        have e3 : b3 = true := by revert hp; cases b3 <;> simp
        have e2 : b2 = true := by revert hp; cases b2 <;> simp
        clear hp
        obtain rfl := (HI.out.2.2.2.1) e3
        obtain rfl := (HI.out.2.2.1) e2
        subst hn4
        refine inv_op (o := ⟨some 11, _, _, _, _, _⟩) rfl (fun K' hK' => ?_)
        go_simp
        obtain ⟨h0, h1, h2, h3, h4, h5, h6, h7, h8, h9, h10, h11, h12, h13, h14, h15, h16, h17, h18, h19, h20, gW⟩ := HI.out
        exact hK'.out _ _ ⟨⟨b0, b1, b2, b3, true, b5, b6, b7, b8, b9, b10, b11, b12, b13, b14, b15, b16, b17, b18, b19, b20, s7, s8, _, _, _, s12, s13, s14, s15, s16, s17, s18, s19, s20, s21, s22, s23, s24, s25, s26, s6⟩, rfl, rfl, h0, h1, h2, h3, (fun _ => rfl), h5, h6, h7, h8, h9, h10, h11, h12, h13, h14, h15, h16, h17, h18, h19, h20, gW⟩
      · have hn5 : b5 = false := by revert hp; cases b5 <;> simp
        have e2 : b2 = true := by revert hp; cases b2 <;> simp
        have e4 : b4 = true := by revert hp; cases b4 <;> simp
        clear hp
        obtain rfl := (HI.out.2.2.1) e2
        obtain rfl := (HI.out.2.2.2.2.1) e4
        subst hn5
        refine inv_op (o := ⟨some 12, _, _, _, _, _⟩) rfl (fun K' hK' => ?_)
        go_simp
        obtain ⟨h0, h1, h2, h3, h4, h5, h6, h7, h8, h9, h10, h11, h12, h13, h14, h15, h16, h17, h18, h19, h20, gW⟩ := HI.out
        exact hK'.out _ _ ⟨⟨b0, b1, b2, b3, b4, true, b6, b7, b8, b9, b10, b11, b12, b13, b14, b15, b16, b17, b18, b19, b20, s7, s8, _, s10, _, _, s13, s14, s15, s16, s17, s18, s19, s20, s21, s22, s23, s24, s25, s26, s6⟩, rfl, rfl, h0, h1, h2, h3, h4, (fun _ => rfl), h6, h7, h8, h9, h10, h11, h12, h13, h14, h15, h16, h17, h18, h19, h20, gW⟩
      · have hn6 : b6 = false := by revert hp; cases b6 <;> simp
        have e5 : b5 = true := by revert hp; cases b5 <;> simp
        clear hp
        obtain rfl := (HI.out.2.2.2.2.2.1) e5
        subst hn6
        refine inv_op (o := ⟨some 13, _, _, _, _, _⟩) rfl (fun K' hK' => ?_)
        go_simp
        obtain ⟨h0, h1, h2, h3, h4, h5, h6, h7, h8, h9, h10, h11, h12, h13, h14, h15, h16, h17, h18, h19, h20, gW⟩ := HI.out
        exact hK'.out _ _ ⟨⟨b0, b1, b2, b3, b4, b5, true, b7, b8, b9, b10, b11, b12, b13, b14, b15, b16, b17, b18, b19, b20, s7, s8, s9, s10, s11, _, _, s14, s15, s16, s17, s18, s19, s20, s21, s22, s23, s24, s25, s26, s6⟩, rfl, rfl, h0, h1, h2, h3, h4, h5, (fun _ => rfl), h7, h8, h9, h10, h11, h12, h13, h14, h15, h16, h17, h18, h19, h20, gW⟩
      · have hn7 : b7 = false := by revert hp; cases b7 <;> simp
        have e6 : b6 = true := by revert hp; cases b6 <;> simp
        clear hp
        obtain rfl := (HI.out.2.2.2.2.2.2.1) e6
        subst hn7
        refine inv_op (o := ⟨some 14, _, _, _, _, _⟩) rfl (fun K' hK' => ?_)
        go_simp
        obtain ⟨h0, h1, h2, h3, h4, h5, h6, h7, h8, h9, h10, h11, h12, h13, h14, h15, h16, h17, h18, h19, h20, gW⟩ := HI.out
        exact hK'.out _ _ ⟨⟨b0, b1, b2, b3, b4, b5, b6, true, b8, b9, b10, b11, b12, b13, b14, b15, b16, b17, b18, b19, b20, s7, s8, s9, s10, s11, s12, _, _, s15, s16, s17, s18, s19, s20, s21, s22, s23, s24, s25, s26, s6⟩, rfl, rfl, h0, h1, h2, h3, h4, h5, h6, (fun _ => rfl), h8, h9, h10, h11, h12, h13, h14, h15, h16, h17, h18, h19, h20, gW⟩
      · have hn8 : b8 = false := by revert hp; cases b8 <;> simp
        have e7 : b7 = true := by revert hp; cases b7 <;> simp
        have e6 : b6 = true := by revert hp; cases b6 <;> simp
        clear hp
        obtain rfl := (HI.out.2.2.2.2.2.2.2.1) e7
        obtain rfl := (HI.out.2.2.2.2.2.2.1) e6
        subst hn8
        refine inv_op (o := ⟨some 15, _, _, _, _, _⟩) rfl (fun K' hK' => ?_)
        go_simp
        obtain ⟨h0, h1, h2, h3, h4, h5, h6, h7, h8, h9, h10, h11, h12, h13, h14, h15, h16, h17, h18, h19, h20, gW⟩ := HI.out
        exact hK'.out _ _ ⟨⟨b0, b1, b2, b3, b4, b5, b6, b7, true, b9, b10, b11, b12, b13, b14, b15, b16, b17, b18, b19, b20, s7, s8, s9, s10, s11, s12, _, _, _, s16, s17, s18, s19, s20, s21, s22, s23, s24, s25, s26, s6⟩, rfl, rfl, h0, h1, h2, h3, h4, h5, h6, h7, (fun _ => rfl), h9, h10, h11, h12, h13, h14, h15, h16, h17, h18, h19, h20, gW⟩
      · have hn9 : b9 = false := by revert hp; cases b9 <;> simp
        have e6 : b6 = true := by revert hp; cases b6 <;> simp
        have e8 : b8 = true := by revert hp; cases b8 <;> simp
        clear hp
        obtain rfl := (HI.out.2.2.2.2.2.2.1) e6
        obtain rfl := (HI.out.2.2.2.2.2.2.2.2.1) e8
        subst hn9
        refine inv_op (o := ⟨some 16, _, _, _, _, _⟩) rfl (fun K' hK' => ?_)
        go_simp
        obtain ⟨h0, h1, h2, h3, h4, h5, h6, h7, h8, h9, h10, h11, h12, h13, h14, h15, h16, h17, h18, h19, h20, gW⟩ := HI.out
        exact hK'.out _ _ ⟨⟨b0, b1, b2, b3, b4, b5, b6, b7, b8, true, b10, b11, b12, b13, b14, b15, b16, b17, b18, b19, b20, s7, s8, s9, s10, s11, s12, _, s14, _, _, s17, s18, s19, s20, s21, s22, s23, s24, s25, s26, s6⟩, rfl, rfl, h0, h1, h2, h3, h4, h5, h6, h7, h8, (fun _ => rfl), h10, h11, h12, h13, h14, h15, h16, h17, h18, h19, h20, gW⟩
      · have hn10 : b10 = false := by revert hp; cases b10 <;> simp
        have e9 : b9 = true := by revert hp; cases b9 <;> simp
        clear hp
        obtain rfl := (HI.out.2.2.2.2.2.2.2.2.2.1) e9
        subst hn10
        refine inv_op (o := ⟨some 17, _, _, _, _, _⟩) rfl (fun K' hK' => ?_)
        go_simp
        obtain ⟨h0, h1, h2, h3, h4, h5, h6, h7, h8, h9, h10, h11, h12, h13, h14, h15, h16, h17, h18, h19, h20, gW⟩ := HI.out
        exact hK'.out _ _ ⟨⟨b0, b1, b2, b3, b4, b5, b6, b7, b8, b9, true, b11, b12, b13, b14, b15, b16, b17, b18, b19, b20, s7, s8, s9, s10, s11, s12, s13, s14, s15, _, _, s18, s19, s20, s21, s22, s23, s24, s25, s26, s6⟩, rfl, rfl, h0, h1, h2, h3, h4, h5, h6, h7, h8, h9, (fun _ => rfl), h11, h12, h13, h14, h15, h16, h17, h18, h19, h20, gW⟩
      · have hn11 : b11 = false := by revert hp; cases b11 <;> simp
        have e10 : b10 = true := by revert hp; cases b10 <;> simp
        clear hp
        obtain rfl := (HI.out.2.2.2.2.2.2.2.2.2.2.1) e10
        subst hn11
        refine inv_op (o := ⟨some 18, _, _, _, _, _⟩) rfl (fun K' hK' => ?_)
        go_simp
        obtain ⟨h0, h1, h2, h3, h4, h5, h6, h7, h8, h9, h10, h11, h12, h13, h14, h15, h16, h17, h18, h19, h20, gW⟩ := HI.out
        exact hK'.out _ _ ⟨⟨b0, b1, b2, b3, b4, b5, b6, b7, b8, b9, b10, true, b12, b13, b14, b15, b16, b17, b18, b19, b20, s7, s8, s9, s10, s11, s12, s13, s14, s15, s16, _, _, s19, s20, s21, s22, s23, s24, s25, s26, s6⟩, rfl, rfl, h0, h1, h2, h3, h4, h5, h6, h7, h8, h9, h10, (fun _ => rfl), h12, h13, h14, h15, h16, h17, h18, h19, h20, gW⟩
      · have hn12 : b12 = false := by revert hp; cases b12 <;> simp
        have e10 : b10 = true := by revert hp; cases b10 <;> simp
        clear hp
        obtain rfl := (HI.out.2.2.2.2.2.2.2.2.2.2.1) e10
        subst hn12
        refine inv_op (o := ⟨some 19, _, _, _, _, _⟩) rfl (fun K' hK' => ?_)
        go_simp
        obtain ⟨h0, h1, h2, h3, h4, h5, h6, h7, h8, h9, h10, h11, h12, h13, h14, h15, h16, h17, h18, h19, h20, gW⟩ := HI.out
        exact hK'.out _ _ ⟨⟨b0, b1, b2, b3, b4, b5, b6, b7, b8, b9, b10, b11, true, b13, b14, b15, b16, b17, b18, b19, b20, s7, s8, s9, s10, s11, s12, s13, s14, s15, s16, _, s18, _, s20, s21, s22, s23, s24, s25, s26, s6⟩, rfl, rfl, h0, h1, h2, h3, h4, h5, h6, h7, h8, h9, h10, h11, (fun _ => rfl), h13, h14, h15, h16, h17, h18, h19, h20, gW⟩
      · have hn13 : b13 = false := by revert hp; cases b13 <;> simp
        have e12 : b12 = true := by revert hp; cases b12 <;> simp
        have e10 : b10 = true := by revert hp; cases b10 <;> simp
        clear hp
        obtain rfl := (HI.out.2.2.2.2.2.2.2.2.2.2.2.2.1) e12
        obtain rfl := (HI.out.2.2.2.2.2.2.2.2.2.2.1) e10
        subst hn13
        refine inv_op (o := ⟨some 20, _, _, _, _, _⟩) rfl (fun K' hK' => ?_)
        go_simp
        obtain ⟨h0, h1, h2, h3, h4, h5, h6, h7, h8, h9, h10, h11, h12, h13, h14, h15, h16, h17, h18, h19, h20, gW⟩ := HI.out
        exact hK'.out _ _ ⟨⟨b0, b1, b2, b3, b4, b5, b6, b7, b8, b9, b10, b11, b12, true, b14, b15, b16, b17, b18, b19, b20, s7, s8, s9, s10, s11, s12, s13, s14, s15, s16, _, s18, _, _, s21, s22, s23, s24, s25, s26, s6⟩, rfl, rfl, h0, h1, h2, h3, h4, h5, h6, h7, h8, h9, h10, h11, h12, (fun _ => rfl), h14, h15, h16, h17, h18, h19, h20, gW⟩
      · have hn14 : b14 = false := by revert hp; cases b14 <;> simp
        have e13 : b13 = true := by revert hp; cases b13 <;> simp
        have e10 : b10 = true := by revert hp; cases b10 <;> simp
        clear hp
        obtain rfl := (HI.out.2.2.2.2.2.2.2.2.2.2.2.2.2.1) e13
        obtain rfl := (HI.out.2.2.2.2.2.2.2.2.2.2.1) e10
        subst hn14
        refine inv_op (o := ⟨some 21, _, _, _, _, _⟩) rfl (fun K' hK' => ?_)
        go_simp
        obtain ⟨h0, h1, h2, h3, h4, h5, h6, h7, h8, h9, h10, h11, h12, h13, h14, h15, h16, h17, h18, h19, h20, gW⟩ := HI.out
        exact hK'.out _ _ ⟨⟨b0, b1, b2, b3, b4, b5, b6, b7, b8, b9, b10, b11, b12, b13, true, b15, b16, b17, b18, b19, b20, s7, s8, s9, s10, s11, s12, s13, s14, s15, s16, _, s18, s19, _, _, s22, s23, s24, s25, s26, s6⟩, rfl, rfl, h0, h1, h2, h3, h4, h5, h6, h7, h8, h9, h10, h11, h12, h13, (fun _ => rfl), h15, h16, h17, h18, h19, h20, gW⟩
      · have hn15 : b15 = false := by revert hp; cases b15 <;> simp
        have e10 : b10 = true := by revert hp; cases b10 <;> simp
        clear hp
        obtain rfl := (HI.out.2.2.2.2.2.2.2.2.2.2.1) e10
        subst hn15
        refine inv_op (o := ⟨some 22, _, _, _, _, _⟩) rfl (fun K' hK' => ?_)
        go_simp
        obtain ⟨h0, h1, h2, h3, h4, h5, h6, h7, h8, h9, h10, h11, h12, h13, h14, h15, h16, h17, h18, h19, h20, gW⟩ := HI.out
        exact hK'.out _ _ ⟨⟨b0, b1, b2, b3, b4, b5, b6, b7, b8, b9, b10, b11, b12, b13, b14, true, b16, b17, b18, b19, b20, s7, s8, s9, s10, s11, s12, s13, s14, s15, s16, _, s18, s19, s20, s21, _, s23, s24, s25, s26, s6⟩, rfl, rfl, h0, h1, h2, h3, h4, h5, h6, h7, h8, h9, h10, h11, h12, h13, h14, (fun _ => rfl), h16, h17, h18, h19, h20, gW⟩
      · have hn16 : b16 = false := by revert hp; cases b16 <;> simp
        have e15 : b15 = true := by revert hp; cases b15 <;> simp
        have e10 : b10 = true := by revert hp; cases b10 <;> simp
        clear hp
        obtain rfl := (HI.out.2.2.2.2.2.2.2.2.2.2.2.2.2.2.2.1) e15
        obtain rfl := (HI.out.2.2.2.2.2.2.2.2.2.2.1) e10
        subst hn16
        refine inv_op (o := ⟨some 23, _, _, _, _, _⟩) rfl (fun K' hK' => ?_)
        go_simp
        obtain ⟨h0, h1, h2, h3, h4, h5, h6, h7, h8, h9, h10, h11, h12, h13, h14, h15, h16, h17, h18, h19, h20, gW⟩ := HI.out
        exact hK'.out _ _ ⟨⟨b0, b1, b2, b3, b4, b5, b6, b7, b8, b9, b10, b11, b12, b13, b14, b15, true, b17, b18, b19, b20, s7, s8, s9, s10, s11, s12, s13, s14, s15, s16, _, s18, s19, s20, s21, _, _, s24, s25, s26, s6⟩, rfl, rfl, h0, h1, h2, h3, h4, h5, h6, h7, h8, h9, h10, h11, h12, h13, h14, h15, (fun _ => rfl), h17, h18, h19, h20, gW⟩
      · have hn17 : b17 = false := by revert hp; cases b17 <;> simp
        have e14 : b14 = true := by revert hp; cases b14 <;> simp
        have e16 : b16 = true := by revert hp; cases b16 <;> simp
        have e10 : b10 = true := by revert hp; cases b10 <;> simp
        clear hp
        obtain rfl := (HI.out.2.2.2.2.2.2.2.2.2.2.2.2.2.2.1) e14
        obtain rfl := (HI.out.2.2.2.2.2.2.2.2.2.2.2.2.2.2.2.2.1) e16
        obtain rfl := (HI.out.2.2.2.2.2.2.2.2.2.2.1) e10
        subst hn17
        refine inv_op (o := ⟨some 24, _, _, _, _, _⟩) rfl (fun K' hK' => ?_)
        go_simp
        obtain ⟨h0, h1, h2, h3, h4, h5, h6, h7, h8, h9, h10, h11, h12, h13, h14, h15, h16, h17, h18, h19, h20, gW⟩ := HI.out
        exact hK'.out _ _ ⟨⟨b0, b1, b2, b3, b4, b5, b6, b7, b8, b9, b10, b11, b12, b13, b14, b15, b16, true, b18, b19, b20, s7, s8, s9, s10, s11, s12, s13, s14, s15, s16, _, s18, s19, s20, _, s22, _, _, s25, s26, s6⟩, rfl, rfl, h0, h1, h2, h3, h4, h5, h6, h7, h8, h9, h10, h11, h12, h13, h14, h15, h16, (fun _ => rfl), h18, h19, h20, gW⟩
      · have hn18 : b18 = false := by revert hp; cases b18 <;> simp
        have e11 : b11 = true := by revert hp; cases b11 <;> simp
        have e17 : b17 = true := by revert hp; cases b17 <;> simp
        have e10 : b10 = true := by revert hp; cases b10 <;> simp
        clear hp
        obtain rfl := (HI.out.2.2.2.2.2.2.2.2.2.2.2.1) e11
        obtain rfl := (HI.out.2.2.2.2.2.2.2.2.2.2.2.2.2.2.2.2.2.1) e17
        obtain rfl := (HI.out.2.2.2.2.2.2.2.2.2.2.1) e10
        subst hn18
        refine inv_op (o := ⟨some 25, _, _, _, _, _⟩) rfl (fun K' hK' => ?_)
        go_simp
        obtain ⟨h0, h1, h2, h3, h4, h5, h6, h7, h8, h9, h10, h11, h12, h13, h14, h15, h16, h17, h18, h19, h20, gW⟩ := HI.out
        exact hK'.out _ _ ⟨⟨b0, b1, b2, b3, b4, b5, b6, b7, b8, b9, b10, b11, b12, b13, b14, b15, b16, b17, true, b19, b20, s7, s8, s9, s10, s11, s12, s13, s14, s15, s16, _, _, s19, s20, s21, s22, s23, _, _, s26, s6⟩, rfl, rfl, h0, h1, h2, h3, h4, h5, h6, h7, h8, h9, h10, h11, h12, h13, h14, h15, h16, h17, (fun _ => rfl), h19, h20, gW⟩
      · have hn19 : b19 = false := by revert hp; cases b19 <;> simp
        have e10 : b10 = true := by revert hp; cases b10 <;> simp
        have e18 : b18 = true := by revert hp; cases b18 <;> simp
        clear hp
        obtain rfl := (HI.out.2.2.2.2.2.2.2.2.2.2.1) e10
        obtain rfl := (HI.out.2.2.2.2.2.2.2.2.2.2.2.2.2.2.2.2.2.2.1) e18
        subst hn19
        refine inv_op (o := ⟨some 26, _, _, _, _, _⟩) rfl (fun K' hK' => ?_)
        go_simp
        obtain ⟨h0, h1, h2, h3, h4, h5, h6, h7, h8, h9, h10, h11, h12, h13, h14, h15, h16, h17, h18, h19, h20, gW⟩ := HI.out
        exact hK'.out _ _ ⟨⟨b0, b1, b2, b3, b4, b5, b6, b7, b8, b9, b10, b11, b12, b13, b14, b15, b16, b17, b18, true, b20, s7, s8, s9, s10, s11, s12, s13, s14, s15, s16, _, s18, s19, s20, s21, s22, s23, s24, _, _, s6⟩, rfl, rfl, h0, h1, h2, h3, h4, h5, h6, h7, h8, h9, h10, h11, h12, h13, h14, h15, h16, h17, h18, (fun _ => rfl), h20, gW⟩
      · have hn20 : b20 = false := by revert hp; cases b20 <;> simp
        have e19 : b19 = true := by revert hp; cases b19 <;> simp
        clear hp
        obtain rfl := (HI.out.2.2.2.2.2.2.2.2.2.2.2.2.2.2.2.2.2.2.2.1) e19
        subst hn20
        refine inv_op (o := ⟨some 6, _, _, _, _, _⟩) rfl (fun K' hK' => ?_)
        go_simp
        obtain ⟨h0, h1, h2, h3, h4, h5, h6, h7, h8, h9, h10, h11, h12, h13, h14, h15, h16, h17, h18, h19, h20, gW⟩ := HI.out
        exact hK'.out _ _ ⟨⟨b0, b1, b2, b3, b4, b5, b6, b7, b8, b9, b10, b11, b12, b13, b14, b15, b16, b17, b18, b19, true, s7, s8, s9, s10, s11, s12, s13, s14, s15, s16, s17, s18, s19, s20, s21, s22, s23, s24, s25, _, _⟩, rfl, rfl, h0, h1, h2, h3, h4, h5, h6, h7, h8, h9, h10, h11, h12, h13, h14, h15, h16, h17, h18, h19, (fun _ => rfl), gW⟩
    case hdone =>
      rintro ⟨b0, b1, b2, b3, b4, b5, b6, b7, b8, b9, b10, b11, b12, b13, b14, b15, b16, b17, b18, b19, b20, s7, s8, s9, s10, s11, s12, s13, s14, s15, s16, s17, s18, s19, s20, s21, s22, s23, s24, s25, s26, s6⟩ W hI hall
      dsimp only at hI hall ⊢
      have HI := Lib.hid hI
      clear hI
      obtain rfl : b0 = true := hall 0 (by decide)
      obtain rfl : b1 = true := hall 1 (by decide)
      obtain rfl : b2 = true := hall 2 (by decide)
      obtain rfl : b3 = true := hall 3 (by decide)
      obtain rfl : b4 = true := hall 4 (by decide)
      obtain rfl : b5 = true := hall 5 (by decide)
      obtain rfl : b6 = true := hall 6 (by decide)
      obtain rfl : b7 = true := hall 7 (by decide)
      obtain rfl : b8 = true := hall 8 (by decide)
      obtain rfl : b9 = true := hall 9 (by decide)
      obtain rfl : b10 = true := hall 10 (by decide)
      obtain rfl : b11 = true := hall 11 (by decide)
      obtain rfl : b12 = true := hall 12 (by decide)
      obtain rfl : b13 = true := hall 13 (by decide)
      obtain rfl : b14 = true := hall 14 (by decide)
      obtain rfl : b15 = true := hall 15 (by decide)
      obtain rfl : b16 = true := hall 16 (by decide)
      obtain rfl : b17 = true := hall 17 (by decide)
      obtain rfl : b18 = true := hall 18 (by decide)
      obtain rfl : b19 = true := hall 19 (by decide)
      obtain rfl : b20 = true := hall 20 (by decide)
      obtain rfl := (HI.out.2.2.2.2.2.2.2.2.2.2.2.2.2.2.2.2.2.2.2.2.1) rfl
      have gW := HI.out.2.2.2.2.2.2.2.2.2.2.2.2.2.2.2.2.2.2.2.2.2
      clear HI hall
      have GW := Lib.hid (HB.out.trans (gW.mono HB.out.size))
      clear gW
      go_wp2
      go_ret
      exact ⟨rfl, GW.out⟩

set_option maxHeartbeats 4000000 in
set_option maxRecDepth 100000 in
theorem refRingCheck_any (a : Option Addr) (n c : Nat) (hn : n ≤ maxLen) (b z : Int) (r : Bool) (hr : okR n b z = r) (w : World) :
    Calls Try.prog 28 #[.agg #[.slice a n c], .int .i64 b, .int .i64 z] w fun e w' => e = .returned (.bool r) ∧ Below w.heap.size w w' := by
  unfold maxLen at hn
  have HB := Lib.hid ((Below.refl w.heap.size w).alloc (Nat.le_refl _) (.cells #[.slice a n c] 28))
  have HM := Lib.hid (mem_box w a n c)
  have hn9 : n ≤ maxLen := by unfold maxLen; omega
  have HN := Lib.hid hn9
  clear hn9
  by_cases h1 : n ≤ 8192
  · cases h2 : rightB z with
    | false =>
      obtain rfl : r = false := by rw [← hr, okR, h2, Bool.false_and, Bool.and_false]
      have hd := decide_eq_true h1
      have HC := Lib.hid (show ∀ W, Below (w.alloc (.cells #[.slice a n c] 28)).heap.size (w.alloc (.cells #[.slice a n c] 28)) W → Calls Try.prog 49 #[.agg #[.slice a n c]] W fun e w' => e = .returned (.bool true) ∧ Below W.heap.size W w' from fun W _ => refCheck_any a n c HN.out true (by rw [hd]) W)
      have HS := Lib.hid (show ∀ W, Calls Try.prog 47 #[.int .i64 z] W fun e w' => e = .returned (.bool false) ∧ w' = W from fun W => refRight_any z false h2 W)
      clear hr h1 h2 hn hd
      go_enter Try.func28, Try.ntmps28
      go_wp2_with fail
      refine wp_region_rec (X := RefRngCheck2) (by kernel_rfl) (by kernel_rfl) (fun x => #[x.b0, x.b1, x.b2, x.b3, x.b4, x.b5, x.b6, x.b7, x.b8, x.b9, x.b10, x.b11, x.b12, x.b13]) (fun x => { tmps := #[.agg #[.slice a n c], .int .i64 b, .int .i64 z, .pointer (some ⟨w.heap.size, 0, none⟩), undef, undef, x.s6, x.s7, x.s8, x.s9, x.s10, x.s11, x.s12, x.s13, x.s14, x.s15, x.s16, x.s17, x.s18, x.s19], defers := [] }) (fun x W => (x.b0 = true → x.s7 = .agg #[.slice a n c]) ∧ (x.b1 = true → x.s8 = .bool true) ∧ (x.b2 = true → x.s9 = .bool true) ∧ (x.b3 = true → x.s10 = .int .i64 z) ∧ (x.b4 = true → x.s11 = .bool false) ∧ (x.b5 = true → x.s12 = .bool false) ∧ (x.b6 = true → x.s13 = .bool false) ∧ (x.b7 = true → x.s14 = undef) ∧ (x.b8 = true → x.s15 = undef) ∧ (x.b9 = true → x.s16 = undef) ∧ (x.b10 = true → x.s17 = undef) ∧ (x.b11 = true → x.s18 = undef) ∧ (x.b12 = true → x.s19 = .bool false) ∧ (x.b13 = true → x.s6 = .bool false) ∧ (Below (w.alloc (.cells #[.slice a n c] 28)).heap.size (w.alloc (.cells #[.slice a n c] 28)) W)) ⟨false, false, false, false, false, false, false, false, false, false, false, false, false, false, undef, undef, undef, undef, undef, undef, undef, undef, undef, undef, undef, undef, undef, .bool false⟩ rfl rfl ⟨(fun h => by cases h), (fun h => by cases h), (fun h => by cases h), (fun h => by cases h), (fun h => by cases h), (fun h => by cases h), (fun h => by cases h), (fun h => by cases h), (fun h => by cases h), (fun h => by cases h), (fun h => by cases h), (fun h => by cases h), (fun h => by cases h), (fun h => by cases h), (Below.refl _ _).drew⟩ (fun _ => rfl) ?hstep ?hdone
      case hstep =>
        rintro ⟨b0, b1, b2, b3, b4, b5, b6, b7, b8, b9, b10, b11, b12, b13, s7, s8, s9, s10, s11, s12, s13, s14, s15, s16, s17, s18, s19, s6⟩ W hI i hi
        dsimp only at hI hi ⊢
        have HI := Lib.hid hI
        clear hI
        rw [Region.ready, List.mem_filter, List.mem_range] at hi
        obtain ⟨hlt, hp⟩ := hi
        have hi7 : i = 0 ∨ i = 1 ∨ i = 2 ∨ i = 3 ∨ i = 4 ∨ i = 5 ∨ i = 6 ∨ i = 7 ∨ i = 8 ∨ i = 9 ∨ i = 10 ∨ i = 11 ∨ i = 12 ∨ i = 13 := by simp at hlt; omega
        clear hlt
        rcases hi7 with rfl | rfl | rfl | rfl | rfl | rfl | rfl | rfl | rfl | rfl | rfl | rfl | rfl | rfl
        all_goals simp [Region.binds] at hp
        · have hn0 : b0 = false := by revert hp; cases b0 <;> simp
          clear hp
          subst hn0
          refine inv_op (o := ⟨some 7, _, _, _, _, _⟩) rfl (fun K' hK' => ?_)
          have gW := HI.out.2.2.2.2.2.2.2.2.2.2.2.2.2.2
          obtain ⟨hc1, hc2⟩ := HM.out W gW
          go_simp
          obtain ⟨h0, h1, h2, h3, h4, h5, h6, h7, h8, h9, h10, h11, h12, h13, gW⟩ := HI.out
          exact hK'.out _ _ ⟨⟨true, b1, b2, b3, b4, b5, b6, b7, b8, b9, b10, b11, b12, b13, _, s8, s9, s10, s11, s12, s13, s14, s15, s16, s17, s18, s19, s6⟩, rfl, rfl, (fun _ => rfl), h1, h2, h3, h4, h5, h6, h7, h8, h9, h10, h11, h12, h13, gW⟩
        · have hn1 : b1 = false := by revert hp; cases b1 <;> simp
          have e0 : b0 = true := by revert hp; cases b0 <;> simp
          clear hp
          obtain rfl := (HI.out.1) e0
          subst hn1
          refine inv_op (o := ⟨some 8, _, _, _, _, _⟩) rfl (fun K' hK' => ?_)
          have gW := HI.out.2.2.2.2.2.2.2.2.2.2.2.2.2.2
          go_simp
          refine (HC.out W gW).mono ?_
          rintro e w1 ⟨rfl, bn⟩
          obtain ⟨h0, h1, h2, h3, h4, h5, h6, h7, h8, h9, h10, h11, h12, h13, gW⟩ := HI.out
          exact hK'.out _ _ ⟨⟨b0, true, b2, b3, b4, b5, b6, b7, b8, b9, b10, b11, b12, b13, _, _, s9, s10, s11, s12, s13, s14, s15, s16, s17, s18, s19, s6⟩, rfl, rfl, h0, (fun _ => rfl), h2, h3, h4, h5, h6, h7, h8, h9, h10, h11, h12, h13, (gW.trans (bn.mono gW.size))⟩
        · have hn2 : b2 = false := by revert hp; cases b2 <;> simp
          have e1 : b1 = true := by revert hp; cases b1 <;> simp
          clear hp
          obtain rfl := (HI.out.2.1) e1
          subst hn2
          refine inv_op (o := ⟨some 9, _, _, _, _, _⟩) rfl (fun K' hK' => ?_)
          go_simp
          obtain ⟨h0, h1, h2, h3, h4, h5, h6, h7, h8, h9, h10, h11, h12, h13, gW⟩ := HI.out
          exact hK'.out _ _ ⟨⟨b0, b1, true, b3, b4, b5, b6, b7, b8, b9, b10, b11, b12, b13, s7, _, _, s10, s11, s12, s13, s14, s15, s16, s17, s18, s19, s6⟩, rfl, rfl, h0, h1, (fun _ => rfl), h3, h4, h5, h6, h7, h8, h9, h10, h11, h12, h13, gW⟩
        · have hn3 : b3 = false := by revert hp; cases b3 <;> simp
          have e2 : b2 = true := by revert hp; cases b2 <;> simp
          clear hp
          obtain rfl := (HI.out.2.2.1) e2
          subst hn3
          refine inv_op (o := ⟨some 10, _, _, _, _, _⟩) rfl (fun K' hK' => ?_)
          go_simp
          obtain ⟨h0, h1, h2, h3, h4, h5, h6, h7, h8, h9, h10, h11, h12, h13, gW⟩ := HI.out
          exact hK'.out _ _ ⟨⟨b0, b1, b2, true, b4, b5, b6, b7, b8, b9, b10, b11, b12, b13, s7, s8, _, _, s11, s12, s13, s14, s15, s16, s17, s18, s19, s6⟩, rfl, rfl, h0, h1, h2, (fun _ => rfl), h4, h5, h6, h7, h8, h9, h10, h11, h12, h13, gW⟩
        · have hn4 : b4 = false := by revert hp; cases b4 <;> simp
          have e3 : b3 = true := by revert hp; cases b3 <;> simp
          have e2 : b2 = true := by revert hp; cases b2 <;> simp
          clear hp
          obtain rfl := (HI.out.2.2.2.1) e3
          obtain rfl := (HI.out.2.2.1) e2
          subst hn4
          refine inv_op (o := ⟨some 11, _, _, _, _, _⟩) rfl (fun K' hK' => ?_)
          go_simp
          refine (HS.out W).mono ?_
          rintro e w1 ⟨rfl, rfl⟩
          obtain ⟨h0, h1, h2, h3, h4, h5, h6, h7, h8, h9, h10, h11, h12, h13, gW⟩ := HI.out
          exact hK'.out _ _ ⟨⟨b0, b1, b2, b3, true, b5, b6, b7, b8, b9, b10, b11, b12, b13, s7, s8, _, _, _, s12, s13, s14, s15, s16, s17, s18, s19, s6⟩, rfl, rfl, h0, h1, h2, h3, (fun _ => rfl), h5, h6, h7, h8, h9, h10, h11, h12, h13, gW⟩
        · have hn5 : b5 = false := by revert hp; cases b5 <;> simp
          have e2 : b2 = true := by revert hp; cases b2 <;> simp
          have e4 : b4 = true := by revert hp; cases b4 <;> simp
          clear hp
          obtain rfl := (HI.out.2.2.1) e2
          obtain rfl := (HI.out.2.2.2.2.1) e4
          subst hn5
          refine inv_op (o := ⟨some 12, _, _, _, _, _⟩) rfl (fun K' hK' => ?_)
          go_simp
          obtain ⟨h0, h1, h2, h3, h4, h5, h6, h7, h8, h9, h10, h11, h12, h13, gW⟩ := HI.out
          exact hK'.out _ _ ⟨⟨b0, b1, b2, b3, b4, true, b6, b7, b8, b9, b10, b11, b12, b13, s7, s8, _, s10, _, _, s13, s14, s15, s16, s17, s18, s19, s6⟩, rfl, rfl, h0, h1, h2, h3, h4, (fun _ => rfl), h6, h7, h8, h9, h10, h11, h12, h13, gW⟩
        · have hn6 : b6 = false := by revert hp; cases b6 <;> simp
          have e5 : b5 = true := by revert hp; cases b5 <;> simp
          clear hp
          obtain rfl := (HI.out.2.2.2.2.2.1) e5
          subst hn6
          refine inv_op (o := ⟨some 13, _, _, _, _, _⟩) rfl (fun K' hK' => ?_)
          go_simp
          obtain ⟨h0, h1, h2, h3, h4, h5, h6, h7, h8, h9, h10, h11, h12, h13, gW⟩ := HI.out
          exact hK'.out _ _ ⟨⟨b0, b1, b2, b3, b4, b5, true, b7, b8, b9, b10, b11, b12, b13, s7, s8, s9, s10, s11, _, _, s14, s15, s16, s17, s18, s19, s6⟩, rfl, rfl, h0, h1, h2, h3, h4, h5, (fun _ => rfl), h7, h8, h9, h10, h11, h12, h13, gW⟩
        · have hn7 : b7 = false := by revert hp; cases b7 <;> simp
          have e6 : b6 = true := by revert hp; cases b6 <;> simp
          clear hp
          obtain rfl := (HI.out.2.2.2.2.2.2.1) e6
          subst hn7
          refine inv_op (o := ⟨some 14, _, _, _, _, _⟩) rfl (fun K' hK' => ?_)
          go_simp
          obtain ⟨h0, h1, h2, h3, h4, h5, h6, h7, h8, h9, h10, h11, h12, h13, gW⟩ := HI.out
          exact hK'.out _ _ ⟨⟨b0, b1, b2, b3, b4, b5, b6, true, b8, b9, b10, b11, b12, b13, s7, s8, s9, s10, s11, s12, _, _, s15, s16, s17, s18, s19, s6⟩, rfl, rfl, h0, h1, h2, h3, h4, h5, h6, (fun _ => rfl), h8, h9, h10, h11, h12, h13, gW⟩
        · have hn8 : b8 = false := by revert hp; cases b8 <;> simp
          have e6 : b6 = true := by revert hp; cases b6 <;> simp
          clear hp
          obtain rfl := (HI.out.2.2.2.2.2.2.1) e6
          subst hn8
          refine inv_op (o := ⟨some 15, _, _, _, _, _⟩) rfl (fun K' hK' => ?_)
          go_simp
          obtain ⟨h0, h1, h2, h3, h4, h5, h6, h7, h8, h9, h10, h11, h12, h13, gW⟩ := HI.out
          exact hK'.out _ _ ⟨⟨b0, b1, b2, b3, b4, b5, b6, b7, true, b9, b10, b11, b12, b13, s7, s8, s9, s10, s11, s12, _, s14, _, s16, s17, s18, s19, s6⟩, rfl, rfl, h0, h1, h2, h3, h4, h5, h6, h7, (fun _ => rfl), h9, h10, h11, h12, h13, gW⟩
        · have hn9 : b9 = false := by revert hp; cases b9 <;> simp
          have e6 : b6 = true := by revert hp; cases b6 <;> simp
          clear hp
          obtain rfl := (HI.out.2.2.2.2.2.2.1) e6
          subst hn9
          refine inv_op (o := ⟨some 16, _, _, _, _, _⟩) rfl (fun K' hK' => ?_)
          go_simp
          obtain ⟨h0, h1, h2, h3, h4, h5, h6, h7, h8, h9, h10, h11, h12, h13, gW⟩ := HI.out
          exact hK'.out _ _ ⟨⟨b0, b1, b2, b3, b4, b5, b6, b7, b8, true, b10, b11, b12, b13, s7, s8, s9, s10, s11, s12, _, s14, s15, _, s17, s18, s19, s6⟩, rfl, rfl, h0, h1, h2, h3, h4, h5, h6, h7, h8, (fun _ => rfl), h10, h11, h12, h13, gW⟩
        · have hn10 : b10 = false := by revert hp; cases b10 <;> simp
          have e9 : b9 = true := by revert hp; cases b9 <;> simp
          have e6 : b6 = true := by revert hp; cases b6 <;> simp
          clear hp
          obtain rfl := (HI.out.2.2.2.2.2.2.2.2.2.1) e9
          obtain rfl := (HI.out.2.2.2.2.2.2.1) e6
          subst hn10
          refine inv_op (o := ⟨some 17, _, _, _, _, _⟩) rfl (fun K' hK' => ?_)
          go_simp
          obtain ⟨h0, h1, h2, h3, h4, h5, h6, h7, h8, h9, h10, h11, h12, h13, gW⟩ := HI.out
          exact hK'.out _ _ ⟨⟨b0, b1, b2, b3, b4, b5, b6, b7, b8, b9, true, b11, b12, b13, s7, s8, s9, s10, s11, s12, _, s14, s15, _, _, s18, s19, s6⟩, rfl, rfl, h0, h1, h2, h3, h4, h5, h6, h7, h8, h9, (fun _ => rfl), h11, h12, h13, gW⟩
        · have hn11 : b11 = false := by revert hp; cases b11 <;> simp
          have e7 : b7 = true := by revert hp; cases b7 <;> simp
          have e8 : b8 = true := by revert hp; cases b8 <;> simp
          have e10 : b10 = true := by revert hp; cases b10 <;> simp
          have e6 : b6 = true := by revert hp; cases b6 <;> simp
          clear hp
          obtain rfl := (HI.out.2.2.2.2.2.2.2.1) e7
          obtain rfl := (HI.out.2.2.2.2.2.2.2.2.1) e8
          obtain rfl := (HI.out.2.2.2.2.2.2.2.2.2.2.1) e10
          obtain rfl := (HI.out.2.2.2.2.2.2.1) e6
          subst hn11
          refine inv_op (o := ⟨some 18, _, _, _, _, _⟩) rfl (fun K' hK' => ?_)
          go_simp
          obtain ⟨h0, h1, h2, h3, h4, h5, h6, h7, h8, h9, h10, h11, h12, h13, gW⟩ := HI.out
          exact hK'.out _ _ ⟨⟨b0, b1, b2, b3, b4, b5, b6, b7, b8, b9, b10, true, b12, b13, s7, s8, s9, s10, s11, s12, _, _, _, s16, _, _, s19, s6⟩, rfl, rfl, h0, h1, h2, h3, h4, h5, h6, h7, h8, h9, h10, (fun _ => rfl), h12, h13, gW⟩
        · have hn12 : b12 = false := by revert hp; cases b12 <;> simp
          have e6 : b6 = true := by revert hp; cases b6 <;> simp
          have e11 : b11 = true := by revert hp; cases b11 <;> simp
          clear hp
          obtain rfl := (HI.out.2.2.2.2.2.2.1) e6
          obtain rfl := (HI.out.2.2.2.2.2.2.2.2.2.2.2.1) e11
          subst hn12
          refine inv_op (o := ⟨some 19, _, _, _, _, _⟩) rfl (fun K' hK' => ?_)
          go_simp
          obtain ⟨h0, h1, h2, h3, h4, h5, h6, h7, h8, h9, h10, h11, h12, h13, gW⟩ := HI.out
          exact hK'.out _ _ ⟨⟨b0, b1, b2, b3, b4, b5, b6, b7, b8, b9, b10, b11, true, b13, s7, s8, s9, s10, s11, s12, _, s14, s15, s16, s17, _, _, s6⟩, rfl, rfl, h0, h1, h2, h3, h4, h5, h6, h7, h8, h9, h10, h11, (fun _ => rfl), h13, gW⟩
        · have hn13 : b13 = false := by revert hp; cases b13 <;> simp
          have e12 : b12 = true := by revert hp; cases b12 <;> simp
          clear hp
          obtain rfl := (HI.out.2.2.2.2.2.2.2.2.2.2.2.2.1) e12
          subst hn13
          refine inv_op (o := ⟨some 6, _, _, _, _, _⟩) rfl (fun K' hK' => ?_)
          go_simp
          obtain ⟨h0, h1, h2, h3, h4, h5, h6, h7, h8, h9, h10, h11, h12, h13, gW⟩ := HI.out
          exact hK'.out _ _ ⟨⟨b0, b1, b2, b3, b4, b5, b6, b7, b8, b9, b10, b11, b12, true, s7, s8, s9, s10, s11, s12, s13, s14, s15, s16, s17, s18, _, _⟩, rfl, rfl, h0, h1, h2, h3, h4, h5, h6, h7, h8, h9, h10, h11, h12, (fun _ => rfl), gW⟩
      case hdone =>
        rintro ⟨b0, b1, b2, b3, b4, b5, b6, b7, b8, b9, b10, b11, b12, b13, s7, s8, s9, s10, s11, s12, s13, s14, s15, s16, s17, s18, s19, s6⟩ W hI hall
        dsimp only at hI hall ⊢
        have HI := Lib.hid hI
        clear hI
        obtain rfl : b0 = true := hall 0 (by decide)
        obtain rfl : b1 = true := hall 1 (by decide)
        obtain rfl : b2 = true := hall 2 (by decide)
        obtain rfl : b3 = true := hall 3 (by decide)
        obtain rfl : b4 = true := hall 4 (by decide)
        obtain rfl : b5 = true := hall 5 (by decide)
        obtain rfl : b6 = true := hall 6 (by decide)
        obtain rfl : b7 = true := hall 7 (by decide)
        obtain rfl : b8 = true := hall 8 (by decide)
        obtain rfl : b9 = true := hall 9 (by decide)
        obtain rfl : b10 = true := hall 10 (by decide)
        obtain rfl : b11 = true := hall 11 (by decide)
        obtain rfl : b12 = true := hall 12 (by decide)
        obtain rfl : b13 = true := hall 13 (by decide)
        obtain rfl := (HI.out.2.2.2.2.2.2.2.2.2.2.2.2.2.1) rfl
        have gW := HI.out.2.2.2.2.2.2.2.2.2.2.2.2.2.2
        clear HI hall
        have GW := Lib.hid (HB.out.trans (gW.mono HB.out.size))
        clear gW
        go_wp2
        go_ret
        exact ⟨rfl, GW.out⟩
    | true =>
      have hd := decide_eq_true h1
      have h2' := h2
      have HC := Lib.hid (show ∀ W, Below (w.alloc (.cells #[.slice a n c] 28)).heap.size (w.alloc (.cells #[.slice a n c] 28)) W → Calls Try.prog 49 #[.agg #[.slice a n c]] W fun e w' => e = .returned (.bool true) ∧ Below W.heap.size W w' from fun W _ => refCheck_any a n c HN.out true (by rw [hd]) W)
      have HS := Lib.hid (show ∀ W, Calls Try.prog 47 #[.int .i64 z] W fun e w' => e = .returned (.bool true) ∧ w' = W from fun W => refRight_any z true h2' W)
      obtain ⟨q, hq⟩ : ∃ q, q = sizeZ z := ⟨_, rfl⟩
      have HZ := Lib.hid (show ∀ W, Calls Try.prog 26 #[.int .i64 z] W fun e w' => e = .returned (.int .i64 q) ∧ w' = W from fun W => refSize_any z q hq.symm W)
      have HIN := Lib.hid (show ∀ W, Below (w.alloc (.cells #[.slice a n c] 28)).heap.size (w.alloc (.cells #[.slice a n c] 28)) W → Calls Try.prog 50 #[.agg #[.slice a n c], .int .i64 b, .int .i64 q] W fun e w' => e = .returned (.bool r) ∧ Below W.heap.size W w' from fun W _ => inside_any a n c h1 b q (by
        obtain ⟨N, rfl, hN⟩ := right_of h2
        have h3 := sizeN_le N
        have h4 := hN.le
        rw [hq, sizeZ_of hN]
        omega) r (by
        obtain ⟨N, rfl, hN⟩ := right_of h2
        have h3 := sizeN_le N
        have h4 := hN.le
        rw [← hr, okR, h2, hd, Bool.true_and, Bool.true_and, hq, sizeZ_of hN, faultOf, if_pos h1]
        by_cases h5 : 0 ≤ b ∧ b ≤ (n : Int) - (sizeN N : Nat)
        · rw [decide_eq_true h5, if_pos (by omega), decide_eq_true rfl]
        · rw [decide_eq_false h5, if_neg (by omega), decide_eq_false (by decide)]) W)
      clear hr h1 h2 hn hd hq h2'
      go_enter Try.func28, Try.ntmps28
      go_wp2_with fail
      refine wp_region_rec (X := RefRngCheck3) (by kernel_rfl) (by kernel_rfl) (fun x => #[x.b0, x.b1, x.b2, x.b3, x.b4, x.b5, x.b6, x.b7, x.b8, x.b9, x.b10, x.b11, x.b12, x.b13]) (fun x => { tmps := #[.agg #[.slice a n c], .int .i64 b, .int .i64 z, .pointer (some ⟨w.heap.size, 0, none⟩), undef, undef, x.s6, x.s7, x.s8, x.s9, x.s10, x.s11, x.s12, x.s13, x.s14, x.s15, x.s16, x.s17, x.s18, x.s19], defers := [] }) (fun x W => (x.b0 = true → x.s7 = .agg #[.slice a n c]) ∧ (x.b1 = true → x.s8 = .bool true) ∧ (x.b2 = true → x.s9 = .bool true) ∧ (x.b3 = true → x.s10 = .int .i64 z) ∧ (x.b4 = true → x.s11 = .bool true) ∧ (x.b5 = true → x.s12 = .bool true) ∧ (x.b6 = true → x.s13 = .bool true) ∧ (x.b7 = true → x.s14 = .agg #[.slice a n c]) ∧ (x.b8 = true → x.s15 = .int .i64 b) ∧ (x.b9 = true → x.s16 = .int .i64 z) ∧ (x.b10 = true → x.s17 = .int .i64 q) ∧ (x.b11 = true → x.s18 = .bool r) ∧ (x.b12 = true → x.s19 = .bool r) ∧ (x.b13 = true → x.s6 = .bool r) ∧ (Below (w.alloc (.cells #[.slice a n c] 28)).heap.size (w.alloc (.cells #[.slice a n c] 28)) W)) ⟨false, false, false, false, false, false, false, false, false, false, false, false, false, false, undef, undef, undef, undef, undef, undef, undef, undef, undef, undef, undef, undef, undef, .bool false⟩ rfl rfl ⟨(fun h => by cases h), (fun h => by cases h), (fun h => by cases h), (fun h => by cases h), (fun h => by cases h), (fun h => by cases h), (fun h => by cases h), (fun h => by cases h), (fun h => by cases h), (fun h => by cases h), (fun h => by cases h), (fun h => by cases h), (fun h => by cases h), (fun h => by cases h), (Below.refl _ _).drew⟩ (fun _ => rfl) ?hstep ?hdone
      case hstep =>
        rintro ⟨b0, b1, b2, b3, b4, b5, b6, b7, b8, b9, b10, b11, b12, b13, s7, s8, s9, s10, s11, s12, s13, s14, s15, s16, s17, s18, s19, s6⟩ W hI i hi
        dsimp only at hI hi ⊢
        have HI := Lib.hid hI
        clear hI
        rw [Region.ready, List.mem_filter, List.mem_range] at hi
        obtain ⟨hlt, hp⟩ := hi
        have hi7 : i = 0 ∨ i = 1 ∨ i = 2 ∨ i = 3 ∨ i = 4 ∨ i = 5 ∨ i = 6 ∨ i = 7 ∨ i = 8 ∨ i = 9 ∨ i = 10 ∨ i = 11 ∨ i = 12 ∨ i = 13 := by simp at hlt; omega
        clear hlt
        rcases hi7 with rfl | rfl | rfl | rfl | rfl | rfl | rfl | rfl | rfl | rfl | rfl | rfl | rfl | rfl
        all_goals simp [Region.binds] at hp
        · have hn0 : b0 = false := by revert hp; cases b0 <;> simp
          clear hp
          subst hn0
          refine inv_op (o := ⟨some 7, _, _, _, _, _⟩) rfl (fun K' hK' => ?_)
          have gW := HI.out.2.2.2.2.2.2.2.2.2.2.2.2.2.2
          obtain ⟨hc1, hc2⟩ := HM.out W gW
          go_simp
          obtain ⟨h0, h1, h2, h3, h4, h5, h6, h7, h8, h9, h10, h11, h12, h13, gW⟩ := HI.out
          exact hK'.out _ _ ⟨⟨true, b1, b2, b3, b4, b5, b6, b7, b8, b9, b10, b11, b12, b13, _, s8, s9, s10, s11, s12, s13, s14, s15, s16, s17, s18, s19, s6⟩, rfl, rfl, (fun _ => rfl), h1, h2, h3, h4, h5, h6, h7, h8, h9, h10, h11, h12, h13, gW⟩
        · have hn1 : b1 = false := by revert hp; cases b1 <;> simp
          have e0 : b0 = true := by revert hp; cases b0 <;> simp
          clear hp
          obtain rfl := (HI.out.1) e0
          subst hn1
          refine inv_op (o := ⟨some 8, _, _, _, _, _⟩) rfl (fun K' hK' => ?_)
          have gW := HI.out.2.2.2.2.2.2.2.2.2.2.2.2.2.2
          go_simp
          refine (HC.out W gW).mono ?_
          rintro e w1 ⟨rfl, bn⟩
          obtain ⟨h0, h1, h2, h3, h4, h5, h6, h7, h8, h9, h10, h11, h12, h13, gW⟩ := HI.out
          exact hK'.out _ _ ⟨⟨b0, true, b2, b3, b4, b5, b6, b7, b8, b9, b10, b11, b12, b13, _, _, s9, s10, s11, s12, s13, s14, s15, s16, s17, s18, s19, s6⟩, rfl, rfl, h0, (fun _ => rfl), h2, h3, h4, h5, h6, h7, h8, h9, h10, h11, h12, h13, (gW.trans (bn.mono gW.size))⟩
        · have hn2 : b2 = false := by revert hp; cases b2 <;> simp
          have e1 : b1 = true := by revert hp; cases b1 <;> simp
          clear hp
          obtain rfl := (HI.out.2.1) e1
          subst hn2
          refine inv_op (o := ⟨some 9, _, _, _, _, _⟩) rfl (fun K' hK' => ?_)
          go_simp
          obtain ⟨h0, h1, h2, h3, h4, h5, h6, h7, h8, h9, h10, h11, h12, h13, gW⟩ := HI.out
          exact hK'.out _ _ ⟨⟨b0, b1, true, b3, b4, b5, b6, b7, b8, b9, b10, b11, b12, b13, s7, _, _, s10, s11, s12, s13, s14, s15, s16, s17, s18, s19, s6⟩, rfl, rfl, h0, h1, (fun _ => rfl), h3, h4, h5, h6, h7, h8, h9, h10, h11, h12, h13, gW⟩
        · have hn3 : b3 = false := by revert hp; cases b3 <;> simp
          have e2 : b2 = true := by revert hp; cases b2 <;> simp
          clear hp
          obtain rfl := (HI.out.2.2.1) e2
          subst hn3
          refine inv_op (o := ⟨some 10, _, _, _, _, _⟩) rfl (fun K' hK' => ?_)
          go_simp
          obtain ⟨h0, h1, h2, h3, h4, h5, h6, h7, h8, h9, h10, h11, h12, h13, gW⟩ := HI.out
          exact hK'.out _ _ ⟨⟨b0, b1, b2, true, b4, b5, b6, b7, b8, b9, b10, b11, b12, b13, s7, s8, _, _, s11, s12, s13, s14, s15, s16, s17, s18, s19, s6⟩, rfl, rfl, h0, h1, h2, (fun _ => rfl), h4, h5, h6, h7, h8, h9, h10, h11, h12, h13, gW⟩
        · have hn4 : b4 = false := by revert hp; cases b4 <;> simp
          have e3 : b3 = true := by revert hp; cases b3 <;> simp
          have e2 : b2 = true := by revert hp; cases b2 <;> simp
          clear hp
          obtain rfl := (HI.out.2.2.2.1) e3
          obtain rfl := (HI.out.2.2.1) e2
          subst hn4
          refine inv_op (o := ⟨some 11, _, _, _, _, _⟩) rfl (fun K' hK' => ?_)
          go_simp
          refine (HS.out W).mono ?_
          rintro e w1 ⟨rfl, rfl⟩
          obtain ⟨h0, h1, h2, h3, h4, h5, h6, h7, h8, h9, h10, h11, h12, h13, gW⟩ := HI.out
          exact hK'.out _ _ ⟨⟨b0, b1, b2, b3, true, b5, b6, b7, b8, b9, b10, b11, b12, b13, s7, s8, _, _, _, s12, s13, s14, s15, s16, s17, s18, s19, s6⟩, rfl, rfl, h0, h1, h2, h3, (fun _ => rfl), h5, h6, h7, h8, h9, h10, h11, h12, h13, gW⟩
        · have hn5 : b5 = false := by revert hp; cases b5 <;> simp
          have e2 : b2 = true := by revert hp; cases b2 <;> simp
          have e4 : b4 = true := by revert hp; cases b4 <;> simp
          clear hp
          obtain rfl := (HI.out.2.2.1) e2
          obtain rfl := (HI.out.2.2.2.2.1) e4
          subst hn5
          refine inv_op (o := ⟨some 12, _, _, _, _, _⟩) rfl (fun K' hK' => ?_)
          go_simp
          obtain ⟨h0, h1, h2, h3, h4, h5, h6, h7, h8, h9, h10, h11, h12, h13, gW⟩ := HI.out
          exact hK'.out _ _ ⟨⟨b0, b1, b2, b3, b4, true, b6, b7, b8, b9, b10, b11, b12, b13, s7, s8, _, s10, _, _, s13, s14, s15, s16, s17, s18, s19, s6⟩, rfl, rfl, h0, h1, h2, h3, h4, (fun _ => rfl), h6, h7, h8, h9, h10, h11, h12, h13, gW⟩
        · have hn6 : b6 = false := by revert hp; cases b6 <;> simp
          have e5 : b5 = true := by revert hp; cases b5 <;> simp
          clear hp
          obtain rfl := (HI.out.2.2.2.2.2.1) e5
          subst hn6
          refine inv_op (o := ⟨some 13, _, _, _, _, _⟩) rfl (fun K' hK' => ?_)
          go_simp
          obtain ⟨h0, h1, h2, h3, h4, h5, h6, h7, h8, h9, h10, h11, h12, h13, gW⟩ := HI.out
          exact hK'.out _ _ ⟨⟨b0, b1, b2, b3, b4, b5, true, b7, b8, b9, b10, b11, b12, b13, s7, s8, s9, s10, s11, _, _, s14, s15, s16, s17, s18, s19, s6⟩, rfl, rfl, h0, h1, h2, h3, h4, h5, (fun _ => rfl), h7, h8, h9, h10, h11, h12, h13, gW⟩
        · have hn7 : b7 = false := by revert hp; cases b7 <;> simp
          have e6 : b6 = true := by revert hp; cases b6 <;> simp
          clear hp
          obtain rfl := (HI.out.2.2.2.2.2.2.1) e6
          subst hn7
          refine inv_op (o := ⟨some 14, _, _, _, _, _⟩) rfl (fun K' hK' => ?_)
          have gW := HI.out.2.2.2.2.2.2.2.2.2.2.2.2.2.2
          obtain ⟨hc1, hc2⟩ := HM.out W gW
          go_simp
          obtain ⟨h0, h1, h2, h3, h4, h5, h6, h7, h8, h9, h10, h11, h12, h13, gW⟩ := HI.out
          exact hK'.out _ _ ⟨⟨b0, b1, b2, b3, b4, b5, b6, true, b8, b9, b10, b11, b12, b13, s7, s8, s9, s10, s11, s12, _, _, s15, s16, s17, s18, s19, s6⟩, rfl, rfl, h0, h1, h2, h3, h4, h5, h6, (fun _ => rfl), h8, h9, h10, h11, h12, h13, gW⟩
        · have hn8 : b8 = false := by revert hp; cases b8 <;> simp
          have e6 : b6 = true := by revert hp; cases b6 <;> simp
          clear hp
          obtain rfl := (HI.out.2.2.2.2.2.2.1) e6
          subst hn8
          refine inv_op (o := ⟨some 15, _, _, _, _, _⟩) rfl (fun K' hK' => ?_)
          go_simp
          obtain ⟨h0, h1, h2, h3, h4, h5, h6, h7, h8, h9, h10, h11, h12, h13, gW⟩ := HI.out
          exact hK'.out _ _ ⟨⟨b0, b1, b2, b3, b4, b5, b6, b7, true, b9, b10, b11, b12, b13, s7, s8, s9, s10, s11, s12, _, s14, _, s16, s17, s18, s19, s6⟩, rfl, rfl, h0, h1, h2, h3, h4, h5, h6, h7, (fun _ => rfl), h9, h10, h11, h12, h13, gW⟩
        · have hn9 : b9 = false := by revert hp; cases b9 <;> simp
          have e6 : b6 = true := by revert hp; cases b6 <;> simp
          clear hp
          obtain rfl := (HI.out.2.2.2.2.2.2.1) e6
          subst hn9
          refine inv_op (o := ⟨some 16, _, _, _, _, _⟩) rfl (fun K' hK' => ?_)
          go_simp
          obtain ⟨h0, h1, h2, h3, h4, h5, h6, h7, h8, h9, h10, h11, h12, h13, gW⟩ := HI.out
          exact hK'.out _ _ ⟨⟨b0, b1, b2, b3, b4, b5, b6, b7, b8, true, b10, b11, b12, b13, s7, s8, s9, s10, s11, s12, _, s14, s15, _, s17, s18, s19, s6⟩, rfl, rfl, h0, h1, h2, h3, h4, h5, h6, h7, h8, (fun _ => rfl), h10, h11, h12, h13, gW⟩
        · have hn10 : b10 = false := by revert hp; cases b10 <;> simp
          have e9 : b9 = true := by revert hp; cases b9 <;> simp
          have e6 : b6 = true := by revert hp; cases b6 <;> simp
          clear hp
          obtain rfl := (HI.out.2.2.2.2.2.2.2.2.2.1) e9
          obtain rfl := (HI.out.2.2.2.2.2.2.1) e6
          subst hn10
          refine inv_op (o := ⟨some 17, _, _, _, _, _⟩) rfl (fun K' hK' => ?_)
          go_simp
          refine (HZ.out W).mono ?_
          rintro e w1 ⟨rfl, rfl⟩
          obtain ⟨h0, h1, h2, h3, h4, h5, h6, h7, h8, h9, h10, h11, h12, h13, gW⟩ := HI.out
          exact hK'.out _ _ ⟨⟨b0, b1, b2, b3, b4, b5, b6, b7, b8, b9, true, b11, b12, b13, s7, s8, s9, s10, s11, s12, _, s14, s15, _, _, s18, s19, s6⟩, rfl, rfl, h0, h1, h2, h3, h4, h5, h6, h7, h8, h9, (fun _ => rfl), h11, h12, h13, gW⟩
        · have hn11 : b11 = false := by revert hp; cases b11 <;> simp
          have e7 : b7 = true := by revert hp; cases b7 <;> simp
          have e8 : b8 = true := by revert hp; cases b8 <;> simp
          have e10 : b10 = true := by revert hp; cases b10 <;> simp
          have e6 : b6 = true := by revert hp; cases b6 <;> simp
          clear hp
          obtain rfl := (HI.out.2.2.2.2.2.2.2.1) e7
          obtain rfl := (HI.out.2.2.2.2.2.2.2.2.1) e8
          obtain rfl := (HI.out.2.2.2.2.2.2.2.2.2.2.1) e10
          obtain rfl := (HI.out.2.2.2.2.2.2.1) e6
          subst hn11
          refine inv_op (o := ⟨some 18, _, _, _, _, _⟩) rfl (fun K' hK' => ?_)
          have gW := HI.out.2.2.2.2.2.2.2.2.2.2.2.2.2.2
          go_simp
          refine (HIN.out W gW).mono ?_
          rintro e w1 ⟨rfl, bn⟩
          obtain ⟨h0, h1, h2, h3, h4, h5, h6, h7, h8, h9, h10, h11, h12, h13, gW⟩ := HI.out
          exact hK'.out _ _ ⟨⟨b0, b1, b2, b3, b4, b5, b6, b7, b8, b9, b10, true, b12, b13, s7, s8, s9, s10, s11, s12, _, _, _, s16, _, _, s19, s6⟩, rfl, rfl, h0, h1, h2, h3, h4, h5, h6, h7, h8, h9, h10, (fun _ => rfl), h12, h13, (gW.trans (bn.mono gW.size))⟩
        · have hn12 : b12 = false := by revert hp; cases b12 <;> simp
          have e6 : b6 = true := by revert hp; cases b6 <;> simp
          have e11 : b11 = true := by revert hp; cases b11 <;> simp
          clear hp
          obtain rfl := (HI.out.2.2.2.2.2.2.1) e6
          obtain rfl := (HI.out.2.2.2.2.2.2.2.2.2.2.2.1) e11
          subst hn12
          refine inv_op (o := ⟨some 19, _, _, _, _, _⟩) rfl (fun K' hK' => ?_)
          go_simp
          obtain ⟨h0, h1, h2, h3, h4, h5, h6, h7, h8, h9, h10, h11, h12, h13, gW⟩ := HI.out
          exact hK'.out _ _ ⟨⟨b0, b1, b2, b3, b4, b5, b6, b7, b8, b9, b10, b11, true, b13, s7, s8, s9, s10, s11, s12, _, s14, s15, s16, s17, _, _, s6⟩, rfl, rfl, h0, h1, h2, h3, h4, h5, h6, h7, h8, h9, h10, h11, (fun _ => rfl), h13, gW⟩
        · have hn13 : b13 = false := by revert hp; cases b13 <;> simp
          have e12 : b12 = true := by revert hp; cases b12 <;> simp
          clear hp
          obtain rfl := (HI.out.2.2.2.2.2.2.2.2.2.2.2.2.1) e12
          subst hn13
          refine inv_op (o := ⟨some 6, _, _, _, _, _⟩) rfl (fun K' hK' => ?_)
          go_simp
          obtain ⟨h0, h1, h2, h3, h4, h5, h6, h7, h8, h9, h10, h11, h12, h13, gW⟩ := HI.out
          exact hK'.out _ _ ⟨⟨b0, b1, b2, b3, b4, b5, b6, b7, b8, b9, b10, b11, b12, true, s7, s8, s9, s10, s11, s12, s13, s14, s15, s16, s17, s18, _, _⟩, rfl, rfl, h0, h1, h2, h3, h4, h5, h6, h7, h8, h9, h10, h11, h12, (fun _ => rfl), gW⟩
      case hdone =>
        rintro ⟨b0, b1, b2, b3, b4, b5, b6, b7, b8, b9, b10, b11, b12, b13, s7, s8, s9, s10, s11, s12, s13, s14, s15, s16, s17, s18, s19, s6⟩ W hI hall
        dsimp only at hI hall ⊢
        have HI := Lib.hid hI
        clear hI
        obtain rfl : b0 = true := hall 0 (by decide)
        obtain rfl : b1 = true := hall 1 (by decide)
        obtain rfl : b2 = true := hall 2 (by decide)
        obtain rfl : b3 = true := hall 3 (by decide)
        obtain rfl : b4 = true := hall 4 (by decide)
        obtain rfl : b5 = true := hall 5 (by decide)
        obtain rfl : b6 = true := hall 6 (by decide)
        obtain rfl : b7 = true := hall 7 (by decide)
        obtain rfl : b8 = true := hall 8 (by decide)
        obtain rfl : b9 = true := hall 9 (by decide)
        obtain rfl : b10 = true := hall 10 (by decide)
        obtain rfl : b11 = true := hall 11 (by decide)
        obtain rfl : b12 = true := hall 12 (by decide)
        obtain rfl : b13 = true := hall 13 (by decide)
        obtain rfl := (HI.out.2.2.2.2.2.2.2.2.2.2.2.2.2.1) rfl
        have gW := HI.out.2.2.2.2.2.2.2.2.2.2.2.2.2.2
        clear HI hall
        have GW := Lib.hid (HB.out.trans (gW.mono HB.out.size))
        clear gW
        go_wp2
        go_ret
        exact ⟨rfl, GW.out⟩
  · obtain rfl : r = false := by rw [← hr, okR, decide_eq_false h1, Bool.false_and]
    have hd := decide_eq_false h1
    have HC := Lib.hid (show ∀ W, Below (w.alloc (.cells #[.slice a n c] 28)).heap.size (w.alloc (.cells #[.slice a n c] 28)) W → Calls Try.prog 49 #[.agg #[.slice a n c]] W fun e w' => e = .returned (.bool false) ∧ Below W.heap.size W w' from fun W _ => refCheck_any a n c HN.out false (by rw [hd]) W)
    clear hr h1 hn hd
    go_enter Try.func28, Try.ntmps28
    go_wp2_with fail
    refine wp_region_rec (X := RefRngCheck1) (by kernel_rfl) (by kernel_rfl) (fun x => #[x.b0, x.b1, x.b2, x.b3, x.b4, x.b5, x.b6, x.b7, x.b8, x.b9, x.b10, x.b11, x.b12, x.b13]) (fun x => { tmps := #[.agg #[.slice a n c], .int .i64 b, .int .i64 z, .pointer (some ⟨w.heap.size, 0, none⟩), undef, undef, x.s6, x.s7, x.s8, x.s9, x.s10, x.s11, x.s12, x.s13, x.s14, x.s15, x.s16, x.s17, x.s18, x.s19], defers := [] }) (fun x W => (x.b0 = true → x.s7 = .agg #[.slice a n c]) ∧ (x.b1 = true → x.s8 = .bool false) ∧ (x.b2 = true → x.s9 = .bool false) ∧ (x.b3 = true → x.s10 = undef) ∧ (x.b4 = true → x.s11 = undef) ∧ (x.b5 = true → x.s12 = .bool false) ∧ (x.b6 = true → x.s13 = .bool false) ∧ (x.b7 = true → x.s14 = undef) ∧ (x.b8 = true → x.s15 = undef) ∧ (x.b9 = true → x.s16 = undef) ∧ (x.b10 = true → x.s17 = undef) ∧ (x.b11 = true → x.s18 = undef) ∧ (x.b12 = true → x.s19 = .bool false) ∧ (x.b13 = true → x.s6 = .bool false) ∧ (Below (w.alloc (.cells #[.slice a n c] 28)).heap.size (w.alloc (.cells #[.slice a n c] 28)) W)) ⟨false, false, false, false, false, false, false, false, false, false, false, false, false, false, undef, undef, undef, undef, undef, undef, undef, undef, undef, undef, undef, undef, undef, .bool false⟩ rfl rfl ⟨(fun h => by cases h), (fun h => by cases h), (fun h => by cases h), (fun h => by cases h), (fun h => by cases h), (fun h => by cases h), (fun h => by cases h), (fun h => by cases h), (fun h => by cases h), (fun h => by cases h), (fun h => by cases h), (fun h => by cases h), (fun h => by cases h), (fun h => by cases h), (Below.refl _ _).drew⟩ (fun _ => rfl) ?hstep ?hdone
    case hstep =>
      rintro ⟨b0, b1, b2, b3, b4, b5, b6, b7, b8, b9, b10, b11, b12, b13, s7, s8, s9, s10, s11, s12, s13, s14, s15, s16, s17, s18, s19, s6⟩ W hI i hi
      dsimp only at hI hi ⊢
      have HI := Lib.hid hI
      clear hI
      rw [Region.ready, List.mem_filter, List.mem_range] at hi
      obtain ⟨hlt, hp⟩ := hi
      have hi7 : i = 0 ∨ i = 1 ∨ i = 2 ∨ i = 3 ∨ i = 4 ∨ i = 5 ∨ i = 6 ∨ i = 7 ∨ i = 8 ∨ i = 9 ∨ i = 10 ∨ i = 11 ∨ i = 12 ∨ i = 13 := by simp at hlt; omega
      clear hlt
      rcases hi7 with rfl | rfl | rfl | rfl | rfl | rfl | rfl | rfl | rfl | rfl | rfl | rfl | rfl | rfl
      all_goals simp [Region.binds] at hp
      · have hn0 : b0 = false := by revert hp; cases b0 <;> simp
        clear hp
        subst hn0
        refine inv_op (o := ⟨some 7, _, _, _, _, _⟩) rfl (fun K' hK' => ?_)
        have gW := HI.out.2.2.2.2.2.2.2.2.2.2.2.2.2.2
        obtain ⟨hc1, hc2⟩ := HM.out W gW
        go_simp
        obtain ⟨h0, h1, h2, h3, h4, h5, h6, h7, h8, h9, h10, h11, h12, h13, gW⟩ := HI.out
        exact hK'.out _ _ ⟨⟨true, b1, b2, b3, b4, b5, b6, b7, b8, b9, b10, b11, b12, b13, _, s8, s9, s10, s11, s12, s13, s14, s15, s16, s17, s18, s19, s6⟩, rfl, rfl, (fun _ => rfl), h1, h2, h3, h4, h5, h6, h7, h8, h9, h10, h11, h12, h13, gW⟩
      · have hn1 : b1 = false := by revert hp; cases b1 <;> simp
        have e0 : b0 = true := by revert hp; cases b0 <;> simp
        clear hp
        obtain rfl := (HI.out.1) e0
        subst hn1
        refine inv_op (o := ⟨some 8, _, _, _, _, _⟩) rfl (fun K' hK' => ?_)
        have gW := HI.out.2.2.2.2.2.2.2.2.2.2.2.2.2.2
        go_simp
        refine (HC.out W gW).mono ?_
        rintro e w1 ⟨rfl, bn⟩
        obtain ⟨h0, h1, h2, h3, h4, h5, h6, h7, h8, h9, h10, h11, h12, h13, gW⟩ := HI.out
        exact hK'.out _ _ ⟨⟨b0, true, b2, b3, b4, b5, b6, b7, b8, b9, b10, b11, b12, b13, _, _, s9, s10, s11, s12, s13, s14, s15, s16, s17, s18, s19, s6⟩, rfl, rfl, h0, (fun _ => rfl), h2, h3, h4, h5, h6, h7, h8, h9, h10, h11, h12, h13, (gW.trans (bn.mono gW.size))⟩
      · have hn2 : b2 = false := by revert hp; cases b2 <;> simp
        have e1 : b1 = true := by revert hp; cases b1 <;> simp
        clear hp
        obtain rfl := (HI.out.2.1) e1
        subst hn2
        refine inv_op (o := ⟨some 9, _, _, _, _, _⟩) rfl (fun K' hK' => ?_)
        go_simp
        obtain ⟨h0, h1, h2, h3, h4, h5, h6, h7, h8, h9, h10, h11, h12, h13, gW⟩ := HI.out
        exact hK'.out _ _ ⟨⟨b0, b1, true, b3, b4, b5, b6, b7, b8, b9, b10, b11, b12, b13, s7, _, _, s10, s11, s12, s13, s14, s15, s16, s17, s18, s19, s6⟩, rfl, rfl, h0, h1, (fun _ => rfl), h3, h4, h5, h6, h7, h8, h9, h10, h11, h12, h13, gW⟩
      · have hn3 : b3 = false := by revert hp; cases b3 <;> simp
        have e2 : b2 = true := by revert hp; cases b2 <;> simp
        clear hp
        obtain rfl := (HI.out.2.2.1) e2
        subst hn3
        refine inv_op (o := ⟨some 10, _, _, _, _, _⟩) rfl (fun K' hK' => ?_)
        go_simp
        obtain ⟨h0, h1, h2, h3, h4, h5, h6, h7, h8, h9, h10, h11, h12, h13, gW⟩ := HI.out
        exact hK'.out _ _ ⟨⟨b0, b1, b2, true, b4, b5, b6, b7, b8, b9, b10, b11, b12, b13, s7, s8, _, _, s11, s12, s13, s14, s15, s16, s17, s18, s19, s6⟩, rfl, rfl, h0, h1, h2, (fun _ => rfl), h4, h5, h6, h7, h8, h9, h10, h11, h12, h13, gW⟩
      · have hn4 : b4 = false := by revert hp; cases b4 <;> simp
        have e3 : b3 = true := by revert hp; cases b3 <;> simp
        have e2 : b2 = true := by revert hp; cases b2 <;> simp
        clear hp
        obtain rfl := (HI.out.2.2.2.1) e3
        obtain rfl := (HI.out.2.2.1) e2
        subst hn4
        refine inv_op (o := ⟨some 11, _, _, _, _, _⟩) rfl (fun K' hK' => ?_)
        go_simp
        obtain ⟨h0, h1, h2, h3, h4, h5, h6, h7, h8, h9, h10, h11, h12, h13, gW⟩ := HI.out
        exact hK'.out _ _ ⟨⟨b0, b1, b2, b3, true, b5, b6, b7, b8, b9, b10, b11, b12, b13, s7, s8, _, _, _, s12, s13, s14, s15, s16, s17, s18, s19, s6⟩, rfl, rfl, h0, h1, h2, h3, (fun _ => rfl), h5, h6, h7, h8, h9, h10, h11, h12, h13, gW⟩
      · have hn5 : b5 = false := by revert hp; cases b5 <;> simp
        have e2 : b2 = true := by revert hp; cases b2 <;> simp
        have e4 : b4 = true := by revert hp; cases b4 <;> simp
        clear hp
        obtain rfl := (HI.out.2.2.1) e2
        obtain rfl := (HI.out.2.2.2.2.1) e4
        subst hn5
        refine inv_op (o := ⟨some 12, _, _, _, _, _⟩) rfl (fun K' hK' => ?_)
        go_simp
        obtain ⟨h0, h1, h2, h3, h4, h5, h6, h7, h8, h9, h10, h11, h12, h13, gW⟩ := HI.out
        exact hK'.out _ _ ⟨⟨b0, b1, b2, b3, b4, true, b6, b7, b8, b9, b10, b11, b12, b13, s7, s8, _, s10, _, _, s13, s14, s15, s16, s17, s18, s19, s6⟩, rfl, rfl, h0, h1, h2, h3, h4, (fun _ => rfl), h6, h7, h8, h9, h10, h11, h12, h13, gW⟩
      · have hn6 : b6 = false := by revert hp; cases b6 <;> simp
        have e5 : b5 = true := by revert hp; cases b5 <;> simp
        clear hp
        obtain rfl := (HI.out.2.2.2.2.2.1) e5
        subst hn6
        refine inv_op (o := ⟨some 13, _, _, _, _, _⟩) rfl (fun K' hK' => ?_)
        go_simp
        obtain ⟨h0, h1, h2, h3, h4, h5, h6, h7, h8, h9, h10, h11, h12, h13, gW⟩ := HI.out
        exact hK'.out _ _ ⟨⟨b0, b1, b2, b3, b4, b5, true, b7, b8, b9, b10, b11, b12, b13, s7, s8, s9, s10, s11, _, _, s14, s15, s16, s17, s18, s19, s6⟩, rfl, rfl, h0, h1, h2, h3, h4, h5, (fun _ => rfl), h7, h8, h9, h10, h11, h12, h13, gW⟩
      · have hn7 : b7 = false := by revert hp; cases b7 <;> simp
        have e6 : b6 = true := by revert hp; cases b6 <;> simp
        clear hp
        obtain rfl := (HI.out.2.2.2.2.2.2.1) e6
        subst hn7
        refine inv_op (o := ⟨some 14, _, _, _, _, _⟩) rfl (fun K' hK' => ?_)
        go_simp
        obtain ⟨h0, h1, h2, h3, h4, h5, h6, h7, h8, h9, h10, h11, h12, h13, gW⟩ := HI.out
        exact hK'.out _ _ ⟨⟨b0, b1, b2, b3, b4, b5, b6, true, b8, b9, b10, b11, b12, b13, s7, s8, s9, s10, s11, s12, _, _, s15, s16, s17, s18, s19, s6⟩, rfl, rfl, h0, h1, h2, h3, h4, h5, h6, (fun _ => rfl), h8, h9, h10, h11, h12, h13, gW⟩
      · have hn8 : b8 = false := by revert hp; cases b8 <;> simp
        have e6 : b6 = true := by revert hp; cases b6 <;> simp
        clear hp
        obtain rfl := (HI.out.2.2.2.2.2.2.1) e6
        subst hn8
        refine inv_op (o := ⟨some 15, _, _, _, _, _⟩) rfl (fun K' hK' => ?_)
        go_simp
        obtain ⟨h0, h1, h2, h3, h4, h5, h6, h7, h8, h9, h10, h11, h12, h13, gW⟩ := HI.out
        exact hK'.out _ _ ⟨⟨b0, b1, b2, b3, b4, b5, b6, b7, true, b9, b10, b11, b12, b13, s7, s8, s9, s10, s11, s12, _, s14, _, s16, s17, s18, s19, s6⟩, rfl, rfl, h0, h1, h2, h3, h4, h5, h6, h7, (fun _ => rfl), h9, h10, h11, h12, h13, gW⟩
      · have hn9 : b9 = false := by revert hp; cases b9 <;> simp
        have e6 : b6 = true := by revert hp; cases b6 <;> simp
        clear hp
        obtain rfl := (HI.out.2.2.2.2.2.2.1) e6
        subst hn9
        refine inv_op (o := ⟨some 16, _, _, _, _, _⟩) rfl (fun K' hK' => ?_)
        go_simp
        obtain ⟨h0, h1, h2, h3, h4, h5, h6, h7, h8, h9, h10, h11, h12, h13, gW⟩ := HI.out
        exact hK'.out _ _ ⟨⟨b0, b1, b2, b3, b4, b5, b6, b7, b8, true, b10, b11, b12, b13, s7, s8, s9, s10, s11, s12, _, s14, s15, _, s17, s18, s19, s6⟩, rfl, rfl, h0, h1, h2, h3, h4, h5, h6, h7, h8, (fun _ => rfl), h10, h11, h12, h13, gW⟩
      · have hn10 : b10 = false := by revert hp; cases b10 <;> simp
        have e9 : b9 = true := by revert hp; cases b9 <;> simp
        have e6 : b6 = true := by revert hp; cases b6 <;> simp
        clear hp
        obtain rfl := (HI.out.2.2.2.2.2.2.2.2.2.1) e9
        obtain rfl := (HI.out.2.2.2.2.2.2.1) e6
        subst hn10
        refine inv_op (o := ⟨some 17, _, _, _, _, _⟩) rfl (fun K' hK' => ?_)
        go_simp
        obtain ⟨h0, h1, h2, h3, h4, h5, h6, h7, h8, h9, h10, h11, h12, h13, gW⟩ := HI.out
        exact hK'.out _ _ ⟨⟨b0, b1, b2, b3, b4, b5, b6, b7, b8, b9, true, b11, b12, b13, s7, s8, s9, s10, s11, s12, _, s14, s15, _, _, s18, s19, s6⟩, rfl, rfl, h0, h1, h2, h3, h4, h5, h6, h7, h8, h9, (fun _ => rfl), h11, h12, h13, gW⟩
      · have hn11 : b11 = false := by revert hp; cases b11 <;> simp
        have e7 : b7 = true := by revert hp; cases b7 <;> simp
        have e8 : b8 = true := by revert hp; cases b8 <;> simp
        have e10 : b10 = true := by revert hp; cases b10 <;> simp
        have e6 : b6 = true := by revert hp; cases b6 <;> simp
        clear hp
        obtain rfl := (HI.out.2.2.2.2.2.2.2.1) e7
        obtain rfl := (HI.out.2.2.2.2.2.2.2.2.1) e8
        obtain rfl := (HI.out.2.2.2.2.2.2.2.2.2.2.1) e10
        obtain rfl := (HI.out.2.2.2.2.2.2.1) e6
        subst hn11
        refine inv_op (o := ⟨some 18, _, _, _, _, _⟩) rfl (fun K' hK' => ?_)
        go_simp
        obtain ⟨h0, h1, h2, h3, h4, h5, h6, h7, h8, h9, h10, h11, h12, h13, gW⟩ := HI.out
        exact hK'.out _ _ ⟨⟨b0, b1, b2, b3, b4, b5, b6, b7, b8, b9, b10, true, b12, b13, s7, s8, s9, s10, s11, s12, _, _, _, s16, _, _, s19, s6⟩, rfl, rfl, h0, h1, h2, h3, h4, h5, h6, h7, h8, h9, h10, (fun _ => rfl), h12, h13, gW⟩
      · have hn12 : b12 = false := by revert hp; cases b12 <;> simp
        have e6 : b6 = true := by revert hp; cases b6 <;> simp
        have e11 : b11 = true := by revert hp; cases b11 <;> simp
        clear hp
        obtain rfl := (HI.out.2.2.2.2.2.2.1) e6
        obtain rfl := (HI.out.2.2.2.2.2.2.2.2.2.2.2.1) e11
        subst hn12
        refine inv_op (o := ⟨some 19, _, _, _, _, _⟩) rfl (fun K' hK' => ?_)
        go_simp
        obtain ⟨h0, h1, h2, h3, h4, h5, h6, h7, h8, h9, h10, h11, h12, h13, gW⟩ := HI.out
        exact hK'.out _ _ ⟨⟨b0, b1, b2, b3, b4, b5, b6, b7, b8, b9, b10, b11, true, b13, s7, s8, s9, s10, s11, s12, _, s14, s15, s16, s17, _, _, s6⟩, rfl, rfl, h0, h1, h2, h3, h4, h5, h6, h7, h8, h9, h10, h11, (fun _ => rfl), h13, gW⟩
      · have hn13 : b13 = false := by revert hp; cases b13 <;> simp
        have e12 : b12 = true := by revert hp; cases b12 <;> simp
        clear hp
        obtain rfl := (HI.out.2.2.2.2.2.2.2.2.2.2.2.2.1) e12
        subst hn13
        refine inv_op (o := ⟨some 6, _, _, _, _, _⟩) rfl (fun K' hK' => ?_)
        go_simp
        obtain ⟨h0, h1, h2, h3, h4, h5, h6, h7, h8, h9, h10, h11, h12, h13, gW⟩ := HI.out
        exact hK'.out _ _ ⟨⟨b0, b1, b2, b3, b4, b5, b6, b7, b8, b9, b10, b11, b12, true, s7, s8, s9, s10, s11, s12, s13, s14, s15, s16, s17, s18, _, _⟩, rfl, rfl, h0, h1, h2, h3, h4, h5, h6, h7, h8, h9, h10, h11, h12, (fun _ => rfl), gW⟩
    case hdone =>
      rintro ⟨b0, b1, b2, b3, b4, b5, b6, b7, b8, b9, b10, b11, b12, b13, s7, s8, s9, s10, s11, s12, s13, s14, s15, s16, s17, s18, s19, s6⟩ W hI hall
      dsimp only at hI hall ⊢
      have HI := Lib.hid hI
      clear hI
      obtain rfl : b0 = true := hall 0 (by decide)
      obtain rfl : b1 = true := hall 1 (by decide)
      obtain rfl : b2 = true := hall 2 (by decide)
      obtain rfl : b3 = true := hall 3 (by decide)
      obtain rfl : b4 = true := hall 4 (by decide)
      obtain rfl : b5 = true := hall 5 (by decide)
      obtain rfl : b6 = true := hall 6 (by decide)
      obtain rfl : b7 = true := hall 7 (by decide)
      obtain rfl : b8 = true := hall 8 (by decide)
      obtain rfl : b9 = true := hall 9 (by decide)
      obtain rfl : b10 = true := hall 10 (by decide)
      obtain rfl : b11 = true := hall 11 (by decide)
      obtain rfl : b12 = true := hall 12 (by decide)
      obtain rfl : b13 = true := hall 13 (by decide)
      obtain rfl := (HI.out.2.2.2.2.2.2.2.2.2.2.2.2.2.1) rfl
      have gW := HI.out.2.2.2.2.2.2.2.2.2.2.2.2.2.2
      clear HI hall
      have GW := Lib.hid (HB.out.trans (gW.mono HB.out.size))
      clear gW
      go_wp2
      go_ret
      exact ⟨rfl, GW.out⟩
end Go.Proofs.Ytofeiheomnpggaa
