import Derived.Deep.RegionHeld3
import Derived.Laws.StructEq
import Derived.Test.YtnmekbbnglkmcaaGreatG00
namespace Go.Proofs.YtnmekbbnglkmcaaGreat
open Go.RowKit Go.Lib
theorem mem_box (w : World) (a : Option Addr) (n c : Nat) : ∀ W, Below (w.alloc (.cells #[.slice a n c] 26)).heap.size (w.alloc (.cells #[.slice a n c] 26)) W → W.cell? ⟨w.heap.size, 0, none⟩ = some (.slice a n c) ∧ W.frozen? ⟨w.heap.size, 0, none⟩ = false := fun _ h => one_cell (row_keep (heap_alloc_new w _) h)
structure RngCheck2 where
 (b0 b1 b2 b3 b4 b5 b6 b7 b8 b9 b10 b11 b12 b13 b14 b15 b16 b17 b18 b19 b20 : Bool)
 (s7 s8 s9 s10 s11 s12 s13 s14 s15 s16 s17 s18 s19 s20 s21 s22 s23 s24 s25 s26 s6 : Value)
structure RngCheck4 where
 (b0 b1 b2 b3 b4 b5 b6 b7 b8 b9 b10 b11 b12 b13 b14 b15 b16 b17 b18 b19 b20 : Bool)
 (s7 s8 s9 s10 s11 s12 s13 s14 s15 s16 s17 s18 s19 s20 s21 s22 s23 s24 s25 s26 s6 : Value)
structure RngCheck3 where
 (b0 b1 b2 b3 b4 b5 b6 b7 b8 b9 b10 b11 b12 b13 b14 b15 b16 b17 b18 b19 b20 : Bool)
 (s7 s8 s9 s10 s11 s12 s13 s14 s15 s16 s17 s18 s19 s20 s21 s22 s23 s24 s25 s26 s6 : Value)
structure RngCheck1 where
 (b0 b1 b2 b3 b4 b5 b6 b7 b8 b9 b10 b11 b12 b13 b14 b15 b16 b17 b18 b19 b20 : Bool)
 (s7 s8 s9 s10 s11 s12 s13 s14 s15 s16 s17 s18 s19 s20 s21 s22 s23 s24 s25 s26 s6 : Value)
structure RefRngCheck2 where
 (b0 b1 b2 b3 b4 b5 b6 b7 b8 b9 b10 b11 b12 b13 : Bool)
 (s7 s8 s9 s10 s11 s12 s13 s14 s15 s16 s17 s18 s19 s6 : Value)
structure RefRngCheck3 where
 (b0 b1 b2 b3 b4 b5 b6 b7 b8 b9 b10 b11 b12 b13 : Bool)
 (s7 s8 s9 s10 s11 s12 s13 s14 s15 s16 s17 s18 s19 s6 : Value)
structure RefRngCheck1 where
 (b0 b1 b2 b3 b4 b5 b6 b7 b8 b9 b10 b11 b12 b13 : Bool)
 (s7 s8 s9 s10 s11 s12 s13 s14 s15 s16 s17 s18 s19 s6 : Value)
set_option maxHeartbeats 4000000 in
set_option maxRecDepth 100000 in
theorem ringCheck_any (a : Option Addr) (n c : Nat) (hn : n ≤ maxLen) (b z : Int) (r : Bool) (hr : okR n b z = r) (w : World) :
 Calls Tryz.prog 19 #[.agg #[.slice a n c], .int .i64 b, .int .i64 z] w fun e w' => e = .returned (.bool r) ∧ Below w.heap.size w w' := by
 unfold maxLen at hn
 have HB := Lib.hid ((Below.refl w.heap.size w).alloc (Nat.le_refl _) (.cells #[.slice a n c] 26))
 have HM := Lib.hid (mem_box w a n c)
 have hn9 : n ≤ maxLen := by unfold maxLen; omega
 have HN := Lib.hid hn9
 clear hn9
 by_cases h1 : n ≤ 8192
 · cases h2 : rightB z with
   | false =>
     obtain rfl : r = false := by rw [← hr, okR, h2, Bool.false_and, Bool.and_false]
     have hd := decide_eq_true h1
     have HC := Lib.hid (show ∀ W, Below (w.alloc (.cells #[.slice a n c] 26)).heap.size (w.alloc (.cells #[.slice a n c] 26)) W → Calls Tryz.prog 47 #[.agg #[.slice a n c]] W fun e w' => e = .returned (.bool true) ∧ Below W.heap.size W w' from fun W _ => check_any a n c HN.out true (by rw [hd]) W)
     have HS := Lib.hid (show ∀ W, Calls Tryz.prog 48 #[.int .i64 z] W fun e w' => e = .returned (.bool false) ∧ w' = W from fun W => isSize_any z false h2 W)
     clear hr h1 h2 hn hd
     go_enter Tryz.func19, Tryz.ntmps19
     go_wp2_with fail
     refine wp_region_rec (X := RngCheck2) (by kernel_rfl) (by kernel_rfl) (fun x => #[x.b0, x.b1, x.b2, x.b3, x.b4, x.b5, x.b6, x.b7, x.b8, x.b9, x.b10, x.b11, x.b12, x.b13, x.b14, x.b15, x.b16, x.b17, x.b18, x.b19, x.b20]) (fun x => { tmps := #[.agg #[.slice a n c], .int .i64 b, .int .i64 z, .pointer (some ⟨w.heap.size, 0, none⟩), undef, undef, x.s6, x.s7, x.s8, x.s9, x.s10, x.s11, x.s12, x.s13, x.s14, x.s15, x.s16, x.s17, x.s18, x.s19, x.s20, x.s21, x.s22, x.s23, x.s24, x.s25, x.s26], defers := [] }) (fun x W => (x.b0 = true → x.s7 = .agg #[.slice a n c]) ∧ (x.b1 = true → x.s8 = .bool true) ∧ (x.b2 = true → x.s9 = .bool true) ∧ (x.b3 = true → x.s10 = .int .i64 z) ∧ (x.b4 = true → x.s11 = .bool false) ∧ (x.b5 = true → x.s12 = .bool false) ∧ (x.b6 = true → x.s13 = .bool false) ∧ (x.b7 = true → x.s14 = undef) ∧ (x.b8 = true → x.s15 = undef) ∧ (x.b9 = true → x.s16 = .bool false) ∧ (x.b10 = true → x.s17 = .bool false) ∧ (x.b11 = true → x.s18 = undef) ∧ (x.b12 = true → x.s19 = undef) ∧ (x.b13 = true → x.s20 = undef) ∧ (x.b14 = true → x.s21 = undef) ∧ (x.b15 = true → x.s22 = undef) ∧ (x.b16 = true → x.s23 = undef) ∧ (x.b17 = true → x.s24 = undef) ∧ (x.b18 = true → x.s25 = undef) ∧ (x.b19 = true → x.s26 = .bool false) ∧ (x.b20 = true → x.s6 = .bool false) ∧ (Below (w.alloc (.cells #[.slice a n c] 26)).heap.size (w.alloc (.cells #[.slice a n c] 26)) W)) ⟨false, false, false, false, false, false, false, false, false, false, false, false, false, false, false, false, false, false, false, false, false, undef, undef, undef, undef, undef, undef, undef, undef, undef, undef, undef, undef, undef, undef, undef, undef, undef, undef, undef, undef, .bool false⟩ rfl rfl ⟨(fun h => by cases h), (fun h => by cases h), (fun h => by cases h), (fun h => by cases h), (fun h => by cases h), (fun h => by cases h), (fun h => by cases h), (fun h => by cases h), (fun h => by cases h), (fun h => by cases h), (fun h => by cases h), (fun h => by cases h), (fun h => by cases h), (fun h => by cases h), (fun h => by cases h), (fun h => by cases h), (fun h => by cases h), (fun h => by cases h), (fun h => by cases h), (fun h => by cases h), (fun h => by cases h), (Below.refl _ _).drew⟩ (fun _ => rfl) ?hstep ?hdone
     case hstep =>
      rintro ⟨b0, b1, b2, b3, b4, b5, b6, b7, b8, b9, b10, b11, b12, b13, b14, b15, b16, b17, b18, b19, b20, s7, s8, s9, s10, s11, s12, s13, s14, s15, s16, s17, s18, s19, s20, s21, s22, s23, s24, s25, s26, s6⟩ W hI i hi
      dsimp only at hI hi ⊢
      have HI := Lib.hid hI
      clear hI
      rw [Region.ready, List.mem_filter, List.mem_range] at hi
      obtain ⟨hlt, hp⟩ := hi
      have hi7 : i = 0 ∨ i = 1 ∨ i = 2 ∨ i = 3 ∨ i = 4 ∨ i = 5 ∨ i = 6 ∨ i = 7 ∨ i = 8 ∨ i = 9 ∨ i = 10 ∨ i = 11 ∨ i = 12 ∨ i = 13 ∨ i = 14 ∨ i = 15 ∨ i = 16 ∨ i = 17 ∨ i = 18 ∨ i = 19 ∨ i = 20 := by simp at hlt; omega
      clear hlt
      rcases hi7 with rfl | rfl | rfl | rfl | rfl | rfl | rfl | rfl | rfl | rfl | rfl | rfl | rfl | rfl | rfl | rfl | rfl | rfl | rfl | rfl | rfl
      all_goals simp [Region.binds] at hp
      · obtain rfl : b0 = false := by revert hp; cases b0 <;> simp
        clear hp
        refine inv_op (o := ⟨some 7, _, _, _, _, _⟩) rfl (fun K' hK' => ?_)
        have gW := HI.out.2.2.2.2.2.2.2.2.2.2.2.2.2.2.2.2.2.2.2.2.2
        obtain ⟨hc1, hc2⟩ := HM.out W gW
        go_simp
        exact hK'.out _ _ ⟨.mk .., rfl, rfl, (Upd (fun _ => rfl)) HI.out⟩
      · obtain ⟨rfl, e0⟩ : b1 = false ∧ b0 = true := by revert hp; cases b1 <;> cases b0 <;> simp
        clear hp
        obtain rfl := (HI.out.1) e0
        refine inv_op (o := ⟨some 8, _, _, _, _, _⟩) rfl (fun K' hK' => ?_)
        have gW := HI.out.2.2.2.2.2.2.2.2.2.2.2.2.2.2.2.2.2.2.2.2.2
        go_simp
        refine (HC.out W gW).mono ?_
        rintro e w1 ⟨rfl, bn⟩
        obtain ⟨h0, h1, h2, h3, h4, h5, h6, h7, h8, h9, h10, h11, h12, h13, h14, h15, h16, h17, h18, h19, h20, gW⟩ := HI.out
        exact hK'.out _ _ ⟨.mk .., rfl, rfl, h0, (fun _ => rfl), h2, h3, h4, h5, h6, h7, h8, h9, h10, h11, h12, h13, h14, h15, h16, h17, h18, h19, h20, (gW.trans (bn.mono gW.size))⟩
      · obtain ⟨rfl, e1⟩ : b2 = false ∧ b1 = true := by revert hp; cases b2 <;> cases b1 <;> simp
        clear hp
        obtain rfl := (HI.out.2.1) e1
        refine inv_op (o := ⟨some 9, _, _, _, _, _⟩) rfl (fun K' hK' => ?_)
        go_simp
        exact hK'.out _ _ ⟨.mk .., rfl, rfl, Nxt (Nxt (Upd (fun _ => rfl))) HI.out⟩
      · obtain ⟨rfl, e2⟩ : b3 = false ∧ b2 = true := by revert hp; cases b3 <;> cases b2 <;> simp
        clear hp
        obtain rfl := (HI.out.2.2.1) e2
        refine inv_op (o := ⟨some 10, _, _, _, _, _⟩) rfl (fun K' hK' => ?_)
        go_simp
        exact hK'.out _ _ ⟨.mk .., rfl, rfl, Nxt (Nxt (Nxt (Upd (fun _ => rfl)))) HI.out⟩
      · obtain ⟨rfl, e3, e2⟩ : b4 = false ∧ b3 = true ∧ b2 = true := by revert hp; cases b4 <;> cases b3 <;> cases b2 <;> simp
        clear hp
        obtain rfl := (HI.out.2.2.2.1) e3
        obtain rfl := (HI.out.2.2.1) e2
        refine inv_op (o := ⟨some 11, _, _, _, _, _⟩) rfl (fun K' hK' => ?_)
        go_simp
        refine (HS.out W).mono ?_
        rintro e w1 ⟨rfl, rfl⟩
        exact hK'.out _ _ ⟨.mk .., rfl, rfl, Nx4 (Upd (fun _ => rfl)) HI.out⟩
      · obtain ⟨rfl, e2, e4⟩ : b5 = false ∧ b2 = true ∧ b4 = true := by revert hp; cases b5 <;> cases b2 <;> cases b4 <;> simp
        clear hp
        obtain rfl := (HI.out.2.2.1) e2
        obtain rfl := (HI.out.2.2.2.2.1) e4
        refine inv_op (o := ⟨some 12, _, _, _, _, _⟩) rfl (fun K' hK' => ?_)
        go_simp
        exact hK'.out _ _ ⟨.mk .., rfl, rfl, Nxt (Nx4 (Upd (fun _ => rfl))) HI.out⟩
      · obtain ⟨rfl, e5⟩ : b6 = false ∧ b5 = true := by revert hp; cases b6 <;> cases b5 <;> simp
        clear hp
        obtain rfl := (HI.out.2.2.2.2.2.1) e5
        refine inv_op (o := ⟨some 13, _, _, _, _, _⟩) rfl (fun K' hK' => ?_)
        go_simp
        exact hK'.out _ _ ⟨.mk .., rfl, rfl, Nxt (Nxt (Nx4 (Upd (fun _ => rfl)))) HI.out⟩
      · obtain ⟨rfl, e6⟩ : b7 = false ∧ b6 = true := by revert hp; cases b7 <;> cases b6 <;> simp
        clear hp
        obtain rfl := (HI.out.2.2.2.2.2.2.1) e6
        refine inv_op (o := ⟨some 14, _, _, _, _, _⟩) rfl (fun K' hK' => ?_)
        go_simp
        exact hK'.out _ _ ⟨.mk .., rfl, rfl, Nxt (Nxt (Nxt (Nx4 (Upd (fun _ => rfl))))) HI.out⟩
      · obtain ⟨rfl, e7, e6⟩ : b8 = false ∧ b7 = true ∧ b6 = true := by revert hp; cases b8 <;> cases b7 <;> cases b6 <;> simp
        clear hp
        obtain rfl := (HI.out.2.2.2.2.2.2.2.1) e7
        obtain rfl := (HI.out.2.2.2.2.2.2.1) e6
        refine inv_op (o := ⟨some 15, _, _, _, _, _⟩) rfl (fun K' hK' => ?_)
        go_simp
        exact hK'.out _ _ ⟨.mk .., rfl, rfl, Nx4 (Nx4 (Upd (fun _ => rfl))) HI.out⟩
      · obtain ⟨rfl, e6, e8⟩ : b9 = false ∧ b6 = true ∧ b8 = true := by revert hp; cases b9 <;> cases b6 <;> cases b8 <;> simp
        clear hp
        obtain rfl := (HI.out.2.2.2.2.2.2.1) e6
        obtain rfl := (HI.out.2.2.2.2.2.2.2.2.1) e8
        refine inv_op (o := ⟨some 16, _, _, _, _, _⟩) rfl (fun K' hK' => ?_)
        go_simp
        exact hK'.out _ _ ⟨.mk .., rfl, rfl, Nxt (Nx4 (Nx4 (Upd (fun _ => rfl)))) HI.out⟩
      · obtain ⟨rfl, e9⟩ : b10 = false ∧ b9 = true := by revert hp; cases b10 <;> cases b9 <;> simp
        clear hp
        obtain rfl := (HI.out.2.2.2.2.2.2.2.2.2.1) e9
        refine inv_op (o := ⟨some 17, _, _, _, _, _⟩) rfl (fun K' hK' => ?_)
        go_simp
        exact hK'.out _ _ ⟨.mk .., rfl, rfl, Nxt (Nxt (Nx4 (Nx4 (Upd (fun _ => rfl))))) HI.out⟩
      · obtain ⟨rfl, e10⟩ : b11 = false ∧ b10 = true := by revert hp; cases b11 <;> cases b10 <;> simp
        clear hp
        obtain rfl := (HI.out.2.2.2.2.2.2.2.2.2.2.1) e10
        refine inv_op (o := ⟨some 18, _, _, _, _, _⟩) rfl (fun K' hK' => ?_)
        go_simp
        exact hK'.out _ _ ⟨.mk .., rfl, rfl, Nxt (Nxt (Nxt (Nx4 (Nx4 (Upd (fun _ => rfl)))))) HI.out⟩
      · obtain ⟨rfl, e10⟩ : b12 = false ∧ b10 = true := by revert hp; cases b12 <;> cases b10 <;> simp
        clear hp
        obtain rfl := (HI.out.2.2.2.2.2.2.2.2.2.2.1) e10
        refine inv_op (o := ⟨some 19, _, _, _, _, _⟩) rfl (fun K' hK' => ?_)
        go_simp
        exact hK'.out _ _ ⟨.mk .., rfl, rfl, Nx4 (Nx4 (Nx4 (Upd (fun _ => rfl)))) HI.out⟩
      · obtain ⟨rfl, e12, e10⟩ : b13 = false ∧ b12 = true ∧ b10 = true := by revert hp; cases b13 <;> cases b12 <;> cases b10 <;> simp
        clear hp
        obtain rfl := (HI.out.2.2.2.2.2.2.2.2.2.2.2.2.1) e12
        obtain rfl := (HI.out.2.2.2.2.2.2.2.2.2.2.1) e10
        refine inv_op (o := ⟨some 20, _, _, _, _, _⟩) rfl (fun K' hK' => ?_)
        go_simp
        exact hK'.out _ _ ⟨.mk .., rfl, rfl, Nxt (Nx4 (Nx4 (Nx4 (Upd (fun _ => rfl))))) HI.out⟩
      · obtain ⟨rfl, e13, e10⟩ : b14 = false ∧ b13 = true ∧ b10 = true := by revert hp; cases b14 <;> cases b13 <;> cases b10 <;> simp
        clear hp
        obtain rfl := (HI.out.2.2.2.2.2.2.2.2.2.2.2.2.2.1) e13
        obtain rfl := (HI.out.2.2.2.2.2.2.2.2.2.2.1) e10
        refine inv_op (o := ⟨some 21, _, _, _, _, _⟩) rfl (fun K' hK' => ?_)
        go_simp
        exact hK'.out _ _ ⟨.mk .., rfl, rfl, Nxt (Nxt (Nx4 (Nx4 (Nx4 (Upd (fun _ => rfl)))))) HI.out⟩
      · obtain ⟨rfl, e10⟩ : b15 = false ∧ b10 = true := by revert hp; cases b15 <;> cases b10 <;> simp
        clear hp
        obtain rfl := (HI.out.2.2.2.2.2.2.2.2.2.2.1) e10
        refine inv_op (o := ⟨some 22, _, _, _, _, _⟩) rfl (fun K' hK' => ?_)
        go_simp
        exact hK'.out _ _ ⟨.mk .., rfl, rfl, Nxt (Nxt (Nxt (Nx4 (Nx4 (Nx4 (Upd (fun _ => rfl))))))) HI.out⟩
      · obtain ⟨rfl, e15, e10⟩ : b16 = false ∧ b15 = true ∧ b10 = true := by revert hp; cases b16 <;> cases b15 <;> cases b10 <;> simp
        clear hp
        obtain rfl := (HI.out.2.2.2.2.2.2.2.2.2.2.2.2.2.2.2.1) e15
        obtain rfl := (HI.out.2.2.2.2.2.2.2.2.2.2.1) e10
        refine inv_op (o := ⟨some 23, _, _, _, _, _⟩) rfl (fun K' hK' => ?_)
        go_simp
        exact hK'.out _ _ ⟨.mk .., rfl, rfl, Nx16 (Upd (fun _ => rfl)) HI.out⟩
      · have hn17 : b17 = false := by revert hp; cases b17 <;> simp
        have e14 : b14 = true := by revert hp; cases b14 <;> simp
        have e16 : b16 = true := by revert hp; cases b16 <;> simp
        have e10 : b10 = true := by revert hp; cases b10 <;> simp
        clear hp
        obtain rfl := (HI.out.2.2.2.2.2.2.2.2.2.2.2.2.2.2.1) e14
        obtain rfl := (HI.out.2.2.2.2.2.2.2.2.2.2.2.2.2.2.2.2.1) e16
        obtain rfl := (HI.out.2.2.2.2.2.2.2.2.2.2.1) e10
        subst hn17
        refine inv_op (o := ⟨some 24, _, _, _, _, _⟩) rfl (fun K' hK' => ?_)
        go_simp
        exact hK'.out _ _ ⟨.mk .., rfl, rfl, Nxt (Nx16 (Upd (fun _ => rfl))) HI.out⟩
      · have hn18 : b18 = false := by revert hp; cases b18 <;> simp
        have e11 : b11 = true := by revert hp; cases b11 <;> simp
        have e17 : b17 = true := by revert hp; cases b17 <;> simp
        have e10 : b10 = true := by revert hp; cases b10 <;> simp
        clear hp
        obtain rfl := (HI.out.2.2.2.2.2.2.2.2.2.2.2.1) e11
        obtain rfl := (HI.out.2.2.2.2.2.2.2.2.2.2.2.2.2.2.2.2.2.1) e17
        obtain rfl := (HI.out.2.2.2.2.2.2.2.2.2.2.1) e10
        subst hn18
        refine inv_op (o := ⟨some 25, _, _, _, _, _⟩) rfl (fun K' hK' => ?_)
        go_simp
        exact hK'.out _ _ ⟨.mk .., rfl, rfl, Nxt (Nxt (Nx16 (Upd (fun _ => rfl)))) HI.out⟩
      · obtain ⟨rfl, e10, e18⟩ : b19 = false ∧ b10 = true ∧ b18 = true := by revert hp; cases b19 <;> cases b10 <;> cases b18 <;> simp
        clear hp
        obtain rfl := (HI.out.2.2.2.2.2.2.2.2.2.2.1) e10
        obtain rfl := (HI.out.2.2.2.2.2.2.2.2.2.2.2.2.2.2.2.2.2.2.1) e18
        refine inv_op (o := ⟨some 26, _, _, _, _, _⟩) rfl (fun K' hK' => ?_)
        go_simp
        exact hK'.out _ _ ⟨.mk .., rfl, rfl, Nxt (Nxt (Nxt (Nx16 (Upd (fun _ => rfl))))) HI.out⟩
      · obtain ⟨rfl, e19⟩ : b20 = false ∧ b19 = true := by revert hp; cases b20 <;> cases b19 <;> simp
        clear hp
        obtain rfl := (HI.out.2.2.2.2.2.2.2.2.2.2.2.2.2.2.2.2.2.2.2.1) e19
        refine inv_op (o := ⟨some 6, _, _, _, _, _⟩) rfl (fun K' hK' => ?_)
        go_simp
        exact hK'.out _ _ ⟨.mk .., rfl, rfl, Nx4 (Nx16 (Upd (fun _ => rfl))) HI.out⟩
     case hdone =>
      rintro ⟨b0, b1, b2, b3, b4, b5, b6, b7, b8, b9, b10, b11, b12, b13, b14, b15, b16, b17, b18, b19, b20, s7, s8, s9, s10, s11, s12, s13, s14, s15, s16, s17, s18, s19, s20, s21, s22, s23, s24, s25, s26, s6⟩ W hI hall
      dsimp only at hI hall ⊢
      have HI := Lib.hid hI
      clear hI
      obtain rfl : b0 = true := hall 0 (by decide)
      obtain rfl : b1 = true := hall 1 (by decide)
      obtain rfl : b2 = true := hall 2 (by decide)
      obtain rfl : b3 = true := hall 3 (by decide)
      obtain rfl : b4 = true := hall 4 (by decide)
      obtain rfl : b5 = true := hall 5 (by decide)
      obtain rfl : b6 = true := hall 6 (by decide)
      obtain rfl : b7 = true := hall 7 (by decide)
      obtain rfl : b8 = true := hall 8 (by decide)
      obtain rfl : b9 = true := hall 9 (by decide)
      obtain rfl : b10 = true := hall 10 (by decide)
      obtain rfl : b11 = true := hall 11 (by decide)
      obtain rfl : b12 = true := hall 12 (by decide)
      obtain rfl : b13 = true := hall 13 (by decide)
      obtain rfl : b14 = true := hall 14 (by decide)
      obtain rfl : b15 = true := hall 15 (by decide)
      obtain rfl : b16 = true := hall 16 (by decide)
      obtain rfl : b17 = true := hall 17 (by decide)
      obtain rfl : b18 = true := hall 18 (by decide)
      obtain rfl : b19 = true := hall 19 (by decide)
      obtain rfl : b20 = true := hall 20 (by decide)
      obtain rfl := (HI.out.2.2.2.2.2.2.2.2.2.2.2.2.2.2.2.2.2.2.2.2.1) rfl
      have gW := HI.out.2.2.2.2.2.2.2.2.2.2.2.2.2.2.2.2.2.2.2.2.2
      clear HI hall
      have GW := Lib.hid (HB.out.trans (gW.mono HB.out.size))
      clear gW
      go_wp2
      go_ret
      exact ⟨rfl, GW.out⟩
   | true =>
     have hd := decide_eq_true h1
     have h2' := h2
     have HC := Lib.hid (show ∀ W, Below (w.alloc (.cells #[.slice a n c] 26)).heap.size (w.alloc (.cells #[.slice a n c] 26)) W → Calls Tryz.prog 47 #[.agg #[.slice a n c]] W fun e w' => e = .returned (.bool true) ∧ Below W.heap.size W w' from fun W _ => check_any a n c HN.out true (by rw [hd]) W)
     have HS := Lib.hid (show ∀ W, Calls Tryz.prog 48 #[.int .i64 z] W fun e w' => e = .returned (.bool true) ∧ w' = W from fun W => isSize_any z true h2' W)
     obtain ⟨q, hq⟩ : ∃ q, q = sizeZ z := ⟨_, rfl⟩
     have HZ := Lib.hid (show ∀ W, Below (w.alloc (.cells #[.slice a n c] 26)).heap.size (w.alloc (.cells #[.slice a n c] 26)) W → Calls Tryz.prog 22 #[.int .i64 z] W fun e w' => e = .returned (.int .i64 q) ∧ Below W.heap.size W w' from fun W _ => size_any z q hq.symm W)
     have hq2 : 0 ≤ q ∧ q ≤ 1000 := by
      obtain ⟨N, rfl, hN⟩ := right_of h2
      have h3 := sizeN_le N
      have h4 := hN.le
      rw [hq, sizeZ_of hN]
      omega
     obtain ⟨d, hd3⟩ : ∃ d, d = (n : Int) - q := ⟨_, rfl⟩
     have hd4 : (n : Int) - q = d := hd3.symm
     have hwd : IntKind.i64.wrap d = d := IntWalk.i64_in _ (by omega)
     by_cases h3 : 0 ≤ b
     · have hb3 : decide (0 ≤ b) = true := decide_eq_true h3
       have hb4 : decide (b ≤ d) = r := by
        rw [← hr, okR, h2, hd, Bool.true_and, Bool.true_and, hd3, hq]
        congr 1
        exact propext ⟨fun h => ⟨h3, h⟩, fun h => h.2⟩
       clear hr h1 h2 hn hd hq hq2 hd3 h3 h2'
       go_enter Tryz.func19, Tryz.ntmps19
       go_wp2_with fail
       refine wp_region_rec (X := RngCheck4) (by kernel_rfl) (by kernel_rfl) (fun x => #[x.b0, x.b1, x.b2, x.b3, x.b4, x.b5, x.b6, x.b7, x.b8, x.b9, x.b10, x.b11, x.b12, x.b13, x.b14, x.b15, x.b16, x.b17, x.b18, x.b19, x.b20]) (fun x => { tmps := #[.agg #[.slice a n c], .int .i64 b, .int .i64 z, .pointer (some ⟨w.heap.size, 0, none⟩), undef, undef, x.s6, x.s7, x.s8, x.s9, x.s10, x.s11, x.s12, x.s13, x.s14, x.s15, x.s16, x.s17, x.s18, x.s19, x.s20, x.s21, x.s22, x.s23, x.s24, x.s25, x.s26], defers := [] }) (fun x W => (x.b0 = true → x.s7 = .agg #[.slice a n c]) ∧ (x.b1 = true → x.s8 = .bool true) ∧ (x.b2 = true → x.s9 = .bool true) ∧ (x.b3 = true → x.s10 = .int .i64 z) ∧ (x.b4 = true → x.s11 = .bool true) ∧ (x.b5 = true → x.s12 = .bool true) ∧ (x.b6 = true → x.s13 = .bool true) ∧ (x.b7 = true → x.s14 = .int .i64 b) ∧ (x.b8 = true → x.s15 = .bool true) ∧ (x.b9 = true → x.s16 = .bool true) ∧ (x.b10 = true → x.s17 = .bool true) ∧ (x.b11 = true → x.s18 = .int .i64 b) ∧ (x.b12 = true → x.s19 = .pointer (some ⟨w.heap.size, 0, none⟩)) ∧ (x.b13 = true → x.s20 = .slice a n c) ∧ (x.b14 = true → x.s21 = .int .i64 (n : Nat)) ∧ (x.b15 = true → x.s22 = .int .i64 z) ∧ (x.b16 = true → x.s23 = .int .i64 q) ∧ (x.b17 = true → x.s24 = .int .i64 d) ∧ (x.b18 = true → x.s25 = .bool r) ∧ (x.b19 = true → x.s26 = .bool r) ∧ (x.b20 = true → x.s6 = .bool r) ∧ (Below (w.alloc (.cells #[.slice a n c] 26)).heap.size (w.alloc (.cells #[.slice a n c] 26)) W)) ⟨false, false, false, false, false, false, false, false, false, false, false, false, false, false, false, false, false, false, false, false, false, undef, undef, undef, undef, undef, undef, undef, undef, undef, undef, undef, undef, undef, undef, undef, undef, undef, undef, undef, undef, .bool false⟩ rfl rfl ⟨(fun h => by cases h), (fun h => by cases h), (fun h => by cases h), (fun h => by cases h), (fun h => by cases h), (fun h => by cases h), (fun h => by cases h), (fun h => by cases h), (fun h => by cases h), (fun h => by cases h), (fun h => by cases h), (fun h => by cases h), (fun h => by cases h), (fun h => by cases h), (fun h => by cases h), (fun h => by cases h), (fun h => by cases h), (fun h => by cases h), (fun h => by cases h), (fun h => by cases h), (fun h => by cases h), (Below.refl _ _).drew⟩ (fun _ => rfl) ?hstep ?hdone
       case hstep =>
        rintro ⟨b0, b1, b2, b3, b4, b5, b6, b7, b8, b9, b10, b11, b12, b13, b14, b15, b16, b17, b18, b19, b20, s7, s8, s9, s10, s11, s12, s13, s14, s15, s16, s17, s18, s19, s20, s21, s22, s23, s24, s25, s26, s6⟩ W hI i hi
        dsimp only at hI hi ⊢
        have HI := Lib.hid hI
        clear hI
        rw [Region.ready, List.mem_filter, List.mem_range] at hi
        obtain ⟨hlt, hp⟩ := hi
        have hi7 : i = 0 ∨ i = 1 ∨ i = 2 ∨ i = 3 ∨ i = 4 ∨ i = 5 ∨ i = 6 ∨ i = 7 ∨ i = 8 ∨ i = 9 ∨ i = 10 ∨ i = 11 ∨ i = 12 ∨ i = 13 ∨ i = 14 ∨ i = 15 ∨ i = 16 ∨ i = 17 ∨ i = 18 ∨ i = 19 ∨ i = 20 := by simp at hlt; omega
        clear hlt
        rcases hi7 with rfl | rfl | rfl | rfl | rfl | rfl | rfl | rfl | rfl | rfl | rfl | rfl | rfl | rfl | rfl | rfl | rfl | rfl | rfl | rfl | rfl
        all_goals simp [Region.binds] at hp
        · obtain rfl : b0 = false := by revert hp; cases b0 <;> simp
          clear hp
          refine inv_op (o := ⟨some 7, _, _, _, _, _⟩) rfl (fun K' hK' => ?_)
          have gW := HI.out.2.2.2.2.2.2.2.2.2.2.2.2.2.2.2.2.2.2.2.2.2
          obtain ⟨hc1, hc2⟩ := HM.out W gW
          go_simp
          exact hK'.out _ _ ⟨.mk .., rfl, rfl, (Upd (fun _ => rfl)) HI.out⟩
        · obtain ⟨rfl, e0⟩ : b1 = false ∧ b0 = true := by revert hp; cases b1 <;> cases b0 <;> simp
          clear hp
          obtain rfl := (HI.out.1) e0
          refine inv_op (o := ⟨some 8, _, _, _, _, _⟩) rfl (fun K' hK' => ?_)
          have gW := HI.out.2.2.2.2.2.2.2.2.2.2.2.2.2.2.2.2.2.2.2.2.2
          go_simp
          refine (HC.out W gW).mono ?_
          rintro e w1 ⟨rfl, bn⟩
          obtain ⟨h0, h1, h2, h3, h4, h5, h6, h7, h8, h9, h10, h11, h12, h13, h14, h15, h16, h17, h18, h19, h20, gW⟩ := HI.out
          exact hK'.out _ _ ⟨.mk .., rfl, rfl, h0, (fun _ => rfl), h2, h3, h4, h5, h6, h7, h8, h9, h10, h11, h12, h13, h14, h15, h16, h17, h18, h19, h20, (gW.trans (bn.mono gW.size))⟩
        · obtain ⟨rfl, e1⟩ : b2 = false ∧ b1 = true := by revert hp; cases b2 <;> cases b1 <;> simp
          clear hp
          obtain rfl := (HI.out.2.1) e1
          refine inv_op (o := ⟨some 9, _, _, _, _, _⟩) rfl (fun K' hK' => ?_)
          go_simp
          exact hK'.out _ _ ⟨.mk .., rfl, rfl, Nxt (Nxt (Upd (fun _ => rfl))) HI.out⟩
        · obtain ⟨rfl, e2⟩ : b3 = false ∧ b2 = true := by revert hp; cases b3 <;> cases b2 <;> simp
          clear hp
          obtain rfl := (HI.out.2.2.1) e2
          refine inv_op (o := ⟨some 10, _, _, _, _, _⟩) rfl (fun K' hK' => ?_)
          go_simp
          exact hK'.out _ _ ⟨.mk .., rfl, rfl, Nxt (Nxt (Nxt (Upd (fun _ => rfl)))) HI.out⟩
        · obtain ⟨rfl, e3, e2⟩ : b4 = false ∧ b3 = true ∧ b2 = true := by revert hp; cases b4 <;> cases b3 <;> cases b2 <;> simp
          clear hp
          obtain rfl := (HI.out.2.2.2.1) e3
          obtain rfl := (HI.out.2.2.1) e2
          refine inv_op (o := ⟨some 11, _, _, _, _, _⟩) rfl (fun K' hK' => ?_)
          go_simp
          refine (HS.out W).mono ?_
          rintro e w1 ⟨rfl, rfl⟩
          exact hK'.out _ _ ⟨.mk .., rfl, rfl, Nx4 (Upd (fun _ => rfl)) HI.out⟩
        · obtain ⟨rfl, e2, e4⟩ : b5 = false ∧ b2 = true ∧ b4 = true := by revert hp; cases b5 <;> cases b2 <;> cases b4 <;> simp
          clear hp
          obtain rfl := (HI.out.2.2.1) e2
          obtain rfl := (HI.out.2.2.2.2.1) e4
          refine inv_op (o := ⟨some 12, _, _, _, _, _⟩) rfl (fun K' hK' => ?_)
          go_simp
          exact hK'.out _ _ ⟨.mk .., rfl, rfl, Nxt (Nx4 (Upd (fun _ => rfl))) HI.out⟩
        · obtain ⟨rfl, e5⟩ : b6 = false ∧ b5 = true := by revert hp; cases b6 <;> cases b5 <;> simp
          clear hp
          obtain rfl := (HI.out.2.2.2.2.2.1) e5
          refine inv_op (o := ⟨some 13, _, _, _, _, _⟩) rfl (fun K' hK' => ?_)
          go_simp
          exact hK'.out _ _ ⟨.mk .., rfl, rfl, Nxt (Nxt (Nx4 (Upd (fun _ => rfl)))) HI.out⟩
        · obtain ⟨rfl, e6⟩ : b7 = false ∧ b6 = true := by revert hp; cases b7 <;> cases b6 <;> simp
          clear hp
          obtain rfl := (HI.out.2.2.2.2.2.2.1) e6
          refine inv_op (o := ⟨some 14, _, _, _, _, _⟩) rfl (fun K' hK' => ?_)
          go_simp
          exact hK'.out _ _ ⟨.mk .., rfl, rfl, Nxt (Nxt (Nxt (Nx4 (Upd (fun _ => rfl))))) HI.out⟩
        · obtain ⟨rfl, e7, e6⟩ : b8 = false ∧ b7 = true ∧ b6 = true := by revert hp; cases b8 <;> cases b7 <;> cases b6 <;> simp
          clear hp
          obtain rfl := (HI.out.2.2.2.2.2.2.2.1) e7
          obtain rfl := (HI.out.2.2.2.2.2.2.1) e6
          refine inv_op (o := ⟨some 15, _, _, _, _, _⟩) rfl (fun K' hK' => ?_)
          go_simp
          exact hK'.out _ _ ⟨.mk .., rfl, rfl, Nx4 (Nx4 (Upd (fun _ => rfl))) HI.out⟩
        · obtain ⟨rfl, e6, e8⟩ : b9 = false ∧ b6 = true ∧ b8 = true := by revert hp; cases b9 <;> cases b6 <;> cases b8 <;> simp
          clear hp
          obtain rfl := (HI.out.2.2.2.2.2.2.1) e6
          obtain rfl := (HI.out.2.2.2.2.2.2.2.2.1) e8
          refine inv_op (o := ⟨some 16, _, _, _, _, _⟩) rfl (fun K' hK' => ?_)
          go_simp
          exact hK'.out _ _ ⟨.mk .., rfl, rfl, Nxt (Nx4 (Nx4 (Upd (fun _ => rfl)))) HI.out⟩
        · obtain ⟨rfl, e9⟩ : b10 = false ∧ b9 = true := by revert hp; cases b10 <;> cases b9 <;> simp
          clear hp
          obtain rfl := (HI.out.2.2.2.2.2.2.2.2.2.1) e9
          refine inv_op (o := ⟨some 17, _, _, _, _, _⟩) rfl (fun K' hK' => ?_)
          go_simp
          exact hK'.out _ _ ⟨.mk .., rfl, rfl, Nxt (Nxt (Nx4 (Nx4 (Upd (fun _ => rfl))))) HI.out⟩
        · obtain ⟨rfl, e10⟩ : b11 = false ∧ b10 = true := by revert hp; cases b11 <;> cases b10 <;> simp
          clear hp
          obtain rfl := (HI.out.2.2.2.2.2.2.2.2.2.2.1) e10
          refine inv_op (o := ⟨some 18, _, _, _, _, _⟩) rfl (fun K' hK' => ?_)
          go_simp
          exact hK'.out _ _ ⟨.mk .., rfl, rfl, Nxt (Nxt (Nxt (Nx4 (Nx4 (Upd (fun _ => rfl)))))) HI.out⟩
        · obtain ⟨rfl, e10⟩ : b12 = false ∧ b10 = true := by revert hp; cases b12 <;> cases b10 <;> simp
          clear hp
          obtain rfl := (HI.out.2.2.2.2.2.2.2.2.2.2.1) e10
          refine inv_op (o := ⟨some 19, _, _, _, _, _⟩) rfl (fun K' hK' => ?_)
          go_simp
          exact hK'.out _ _ ⟨.mk .., rfl, rfl, Nx4 (Nx4 (Nx4 (Upd (fun _ => rfl)))) HI.out⟩
        · obtain ⟨rfl, e12, e10⟩ : b13 = false ∧ b12 = true ∧ b10 = true := by revert hp; cases b13 <;> cases b12 <;> cases b10 <;> simp
          clear hp
          obtain rfl := (HI.out.2.2.2.2.2.2.2.2.2.2.2.2.1) e12
          obtain rfl := (HI.out.2.2.2.2.2.2.2.2.2.2.1) e10
          refine inv_op (o := ⟨some 20, _, _, _, _, _⟩) rfl (fun K' hK' => ?_)
          have gW := HI.out.2.2.2.2.2.2.2.2.2.2.2.2.2.2.2.2.2.2.2.2.2
          obtain ⟨hc1, hc2⟩ := HM.out W gW
          go_simp
          exact hK'.out _ _ ⟨.mk .., rfl, rfl, Nxt (Nx4 (Nx4 (Nx4 (Upd (fun _ => rfl))))) HI.out⟩
        · obtain ⟨rfl, e13, e10⟩ : b14 = false ∧ b13 = true ∧ b10 = true := by revert hp; cases b14 <;> cases b13 <;> cases b10 <;> simp
          clear hp
          obtain rfl := (HI.out.2.2.2.2.2.2.2.2.2.2.2.2.2.1) e13
          obtain rfl := (HI.out.2.2.2.2.2.2.2.2.2.2.1) e10
          refine inv_op (o := ⟨some 21, _, _, _, _, _⟩) rfl (fun K' hK' => ?_)
          go_simp
          exact hK'.out _ _ ⟨.mk .., rfl, rfl, Nxt (Nxt (Nx4 (Nx4 (Nx4 (Upd (fun _ => rfl)))))) HI.out⟩
        · obtain ⟨rfl, e10⟩ : b15 = false ∧ b10 = true := by revert hp; cases b15 <;> cases b10 <;> simp
          clear hp
          obtain rfl := (HI.out.2.2.2.2.2.2.2.2.2.2.1) e10
          refine inv_op (o := ⟨some 22, _, _, _, _, _⟩) rfl (fun K' hK' => ?_)
          go_simp
          exact hK'.out _ _ ⟨.mk .., rfl, rfl, Nxt (Nxt (Nxt (Nx4 (Nx4 (Nx4 (Upd (fun _ => rfl))))))) HI.out⟩
        · obtain ⟨rfl, e15, e10⟩ : b16 = false ∧ b15 = true ∧ b10 = true := by revert hp; cases b16 <;> cases b15 <;> cases b10 <;> simp
          clear hp
          obtain rfl := (HI.out.2.2.2.2.2.2.2.2.2.2.2.2.2.2.2.1) e15
          obtain rfl := (HI.out.2.2.2.2.2.2.2.2.2.2.1) e10
          refine inv_op (o := ⟨some 23, _, _, _, _, _⟩) rfl (fun K' hK' => ?_)
          have gW := HI.out.2.2.2.2.2.2.2.2.2.2.2.2.2.2.2.2.2.2.2.2.2
          go_simp
          refine (HZ.out W gW).mono ?_
          rintro e w1 ⟨rfl, bn⟩
          obtain ⟨h0, h1, h2, h3, h4, h5, h6, h7, h8, h9, h10, h11, h12, h13, h14, h15, h16, h17, h18, h19, h20, gW⟩ := HI.out
          exact hK'.out _ _ ⟨.mk .., rfl, rfl, h0, h1, h2, h3, h4, h5, h6, h7, h8, h9, h10, h11, h12, h13, h14, h15, (fun _ => rfl), h17, h18, h19, h20, (gW.trans (bn.mono gW.size))⟩
        · have hn17 : b17 = false := by revert hp; cases b17 <;> simp
          have e14 : b14 = true := by revert hp; cases b14 <;> simp
          have e16 : b16 = true := by revert hp; cases b16 <;> simp
          have e10 : b10 = true := by revert hp; cases b10 <;> simp
          clear hp
          obtain rfl := (HI.out.2.2.2.2.2.2.2.2.2.2.2.2.2.2.1) e14
          obtain rfl := (HI.out.2.2.2.2.2.2.2.2.2.2.2.2.2.2.2.2.1) e16
          obtain rfl := (HI.out.2.2.2.2.2.2.2.2.2.2.1) e10
          subst hn17
          refine inv_op (o := ⟨some 24, _, _, _, _, _⟩) rfl (fun K' hK' => ?_)
          go_simp
          exact hK'.out _ _ ⟨.mk .., rfl, rfl, Nxt (Nx16 (Upd (fun _ => rfl))) HI.out⟩
        · have hn18 : b18 = false := by revert hp; cases b18 <;> simp
          have e11 : b11 = true := by revert hp; cases b11 <;> simp
          have e17 : b17 = true := by revert hp; cases b17 <;> simp
          have e10 : b10 = true := by revert hp; cases b10 <;> simp
          clear hp
          obtain rfl := (HI.out.2.2.2.2.2.2.2.2.2.2.2.1) e11
          obtain rfl := (HI.out.2.2.2.2.2.2.2.2.2.2.2.2.2.2.2.2.2.1) e17
          obtain rfl := (HI.out.2.2.2.2.2.2.2.2.2.2.1) e10
          subst hn18
          refine inv_op (o := ⟨some 25, _, _, _, _, _⟩) rfl (fun K' hK' => ?_)
          go_simp
          exact hK'.out _ _ ⟨.mk .., rfl, rfl, Nxt (Nxt (Nx16 (Upd (fun _ => rfl)))) HI.out⟩
        · obtain ⟨rfl, e10, e18⟩ : b19 = false ∧ b10 = true ∧ b18 = true := by revert hp; cases b19 <;> cases b10 <;> cases b18 <;> simp
          clear hp
          obtain rfl := (HI.out.2.2.2.2.2.2.2.2.2.2.1) e10
          obtain rfl := (HI.out.2.2.2.2.2.2.2.2.2.2.2.2.2.2.2.2.2.2.1) e18
          refine inv_op (o := ⟨some 26, _, _, _, _, _⟩) rfl (fun K' hK' => ?_)
          go_simp
          exact hK'.out _ _ ⟨.mk .., rfl, rfl, Nxt (Nxt (Nxt (Nx16 (Upd (fun _ => rfl))))) HI.out⟩
        · obtain ⟨rfl, e19⟩ : b20 = false ∧ b19 = true := by revert hp; cases b20 <;> cases b19 <;> simp
          clear hp
          obtain rfl := (HI.out.2.2.2.2.2.2.2.2.2.2.2.2.2.2.2.2.2.2.2.1) e19
          refine inv_op (o := ⟨some 6, _, _, _, _, _⟩) rfl (fun K' hK' => ?_)
          go_simp
          exact hK'.out _ _ ⟨.mk .., rfl, rfl, Nx4 (Nx16 (Upd (fun _ => rfl))) HI.out⟩
       case hdone =>
        rintro ⟨b0, b1, b2, b3, b4, b5, b6, b7, b8, b9, b10, b11, b12, b13, b14, b15, b16, b17, b18, b19, b20, s7, s8, s9, s10, s11, s12, s13, s14, s15, s16, s17, s18, s19, s20, s21, s22, s23, s24, s25, s26, s6⟩ W hI hall
        dsimp only at hI hall ⊢
        have HI := Lib.hid hI
        clear hI
        obtain rfl : b0 = true := hall 0 (by decide)
        obtain rfl : b1 = true := hall 1 (by decide)
        obtain rfl : b2 = true := hall 2 (by decide)
        obtain rfl : b3 = true := hall 3 (by decide)
        obtain rfl : b4 = true := hall 4 (by decide)
        obtain rfl : b5 = true := hall 5 (by decide)
        obtain rfl : b6 = true := hall 6 (by decide)
        obtain rfl : b7 = true := hall 7 (by decide)
        obtain rfl : b8 = true := hall 8 (by decide)
        obtain rfl : b9 = true := hall 9 (by decide)
        obtain rfl : b10 = true := hall 10 (by decide)
        obtain rfl : b11 = true := hall 11 (by decide)
        obtain rfl : b12 = true := hall 12 (by decide)
        obtain rfl : b13 = true := hall 13 (by decide)
        obtain rfl : b14 = true := hall 14 (by decide)
        obtain rfl : b15 = true := hall 15 (by decide)
        obtain rfl : b16 = true := hall 16 (by decide)
        obtain rfl : b17 = true := hall 17 (by decide)
        obtain rfl : b18 = true := hall 18 (by decide)
        obtain rfl : b19 = true := hall 19 (by decide)
        obtain rfl : b20 = true := hall 20 (by decide)
        obtain rfl := (HI.out.2.2.2.2.2.2.2.2.2.2.2.2.2.2.2.2.2.2.2.2.1) rfl
        have gW := HI.out.2.2.2.2.2.2.2.2.2.2.2.2.2.2.2.2.2.2.2.2.2
        clear HI hall
        have GW := Lib.hid (HB.out.trans (gW.mono HB.out.size))
        clear gW
        go_wp2
        go_ret
        exact ⟨rfl, GW.out⟩
     · obtain rfl : r = false := by rw [← hr, okR, h2, hd, Bool.true_and, Bool.true_and, decide_eq_false (fun h => h3 h.1)]
       have hb3 : decide (0 ≤ b) = false := decide_eq_false h3
       clear hr h1 h2 hn hd hq hq2 hd3 h3 h2' hd4 hwd
       go_enter Tryz.func19, Tryz.ntmps19
       go_wp2_with fail
       refine wp_region_rec (X := RngCheck3) (by kernel_rfl) (by kernel_rfl) (fun x => #[x.b0, x.b1, x.b2, x.b3, x.b4, x.b5, x.b6, x.b7, x.b8, x.b9, x.b10, x.b11, x.b12, x.b13, x.b14, x.b15, x.b16, x.b17, x.b18, x.b19, x.b20]) (fun x => { tmps := #[.agg #[.slice a n c], .int .i64 b, .int .i64 z, .pointer (some ⟨w.heap.size, 0, none⟩), undef, undef, x.s6, x.s7, x.s8, x.s9, x.s10, x.s11, x.s12, x.s13, x.s14, x.s15, x.s16, x.s17, x.s18, x.s19, x.s20, x.s21, x.s22, x.s23, x.s24, x.s25, x.s26], defers := [] }) (fun x W => (x.b0 = true → x.s7 = .agg #[.slice a n c]) ∧ (x.b1 = true → x.s8 = .bool true) ∧ (x.b2 = true → x.s9 = .bool true) ∧ (x.b3 = true → x.s10 = .int .i64 z) ∧ (x.b4 = true → x.s11 = .bool true) ∧ (x.b5 = true → x.s12 = .bool true) ∧ (x.b6 = true → x.s13 = .bool true) ∧ (x.b7 = true → x.s14 = .int .i64 b) ∧ (x.b8 = true → x.s15 = .bool false) ∧ (x.b9 = true → x.s16 = .bool false) ∧ (x.b10 = true → x.s17 = .bool false) ∧ (x.b11 = true → x.s18 = undef) ∧ (x.b12 = true → x.s19 = undef) ∧ (x.b13 = true → x.s20 = undef) ∧ (x.b14 = true → x.s21 = undef) ∧ (x.b15 = true → x.s22 = undef) ∧ (x.b16 = true → x.s23 = undef) ∧ (x.b17 = true → x.s24 = undef) ∧ (x.b18 = true → x.s25 = undef) ∧ (x.b19 = true → x.s26 = .bool false) ∧ (x.b20 = true → x.s6 = .bool false) ∧ (Below (w.alloc (.cells #[.slice a n c] 26)).heap.size (w.alloc (.cells #[.slice a n c] 26)) W)) ⟨false, false, false, false, false, false, false, false, false, false, false, false, false, false, false, false, false, false, false, false, false, undef, undef, undef, undef, undef, undef, undef, undef, undef, undef, undef, undef, undef, undef, undef, undef, undef, undef, undef, undef, .bool false⟩ rfl rfl ⟨(fun h => by cases h), (fun h => by cases h), (fun h => by cases h), (fun h => by cases h), (fun h => by cases h), (fun h => by cases h), (fun h => by cases h), (fun h => by cases h), (fun h => by cases h), (fun h => by cases h), (fun h => by cases h), (fun h => by cases h), (fun h => by cases h), (fun h => by cases h), (fun h => by cases h), (fun h => by cases h), (fun h => by cases h), (fun h => by cases h), (fun h => by cases h), (fun h => by cases h), (fun h => by cases h), (Below.refl _ _).drew⟩ (fun _ => rfl) ?hstep ?hdone
       case hstep =>
        rintro ⟨b0, b1, b2, b3, b4, b5, b6, b7, b8, b9, b10, b11, b12, b13, b14, b15, b16, b17, b18, b19, b20, s7, s8, s9, s10, s11, s12, s13, s14, s15, s16, s17, s18, s19, s20, s21, s22, s23, s24, s25, s26, s6⟩ W hI i hi
        dsimp only at hI hi ⊢
        have HI := Lib.hid hI
        clear hI
        rw [Region.ready, List.mem_filter, List.mem_range] at hi
        obtain ⟨hlt, hp⟩ := hi
        have hi7 : i = 0 ∨ i = 1 ∨ i = 2 ∨ i = 3 ∨ i = 4 ∨ i = 5 ∨ i = 6 ∨ i = 7 ∨ i = 8 ∨ i = 9 ∨ i = 10 ∨ i = 11 ∨ i = 12 ∨ i = 13 ∨ i = 14 ∨ i = 15 ∨ i = 16 ∨ i = 17 ∨ i = 18 ∨ i = 19 ∨ i = 20 := by simp at hlt; omega
        clear hlt
        rcases hi7 with rfl | rfl | rfl | rfl | rfl | rfl | rfl | rfl | rfl | rfl | rfl | rfl | rfl | rfl | rfl | rfl | rfl | rfl | rfl | rfl | rfl
        all_goals simp [Region.binds] at hp
        · obtain rfl : b0 = false := by revert hp; cases b0 <;> simp
          clear hp
          refine inv_op (o := ⟨some 7, _, _, _, _, _⟩) rfl (fun K' hK' => ?_)
          have gW := HI.out.2.2.2.2.2.2.2.2.2.2.2.2.2.2.2.2.2.2.2.2.2
          obtain ⟨hc1, hc2⟩ := HM.out W gW
          go_simp
          exact hK'.out _ _ ⟨.mk .., rfl, rfl, (Upd (fun _ => rfl)) HI.out⟩
        · obtain ⟨rfl, e0⟩ : b1 = false ∧ b0 = true := by revert hp; cases b1 <;> cases b0 <;> simp
          clear hp
          obtain rfl := (HI.out.1) e0
          refine inv_op (o := ⟨some 8, _, _, _, _, _⟩) rfl (fun K' hK' => ?_)
          have gW := HI.out.2.2.2.2.2.2.2.2.2.2.2.2.2.2.2.2.2.2.2.2.2
          go_simp
          refine (HC.out W gW).mono ?_
          rintro e w1 ⟨rfl, bn⟩
          obtain ⟨h0, h1, h2, h3, h4, h5, h6, h7, h8, h9, h10, h11, h12, h13, h14, h15, h16, h17, h18, h19, h20, gW⟩ := HI.out
          exact hK'.out _ _ ⟨.mk .., rfl, rfl, h0, (fun _ => rfl), h2, h3, h4, h5, h6, h7, h8, h9, h10, h11, h12, h13, h14, h15, h16, h17, h18, h19, h20, (gW.trans (bn.mono gW.size))⟩
        · obtain ⟨rfl, e1⟩ : b2 = false ∧ b1 = true := by revert hp; cases b2 <;> cases b1 <;> simp
          clear hp
          obtain rfl := (HI.out.2.1) e1
          refine inv_op (o := ⟨some 9, _, _, _, _, _⟩) rfl (fun K' hK' => ?_)
          go_simp
          exact hK'.out _ _ ⟨.mk .., rfl, rfl, Nxt (Nxt (Upd (fun _ => rfl))) HI.out⟩
        · obtain ⟨rfl, e2⟩ : b3 = false ∧ b2 = true := by revert hp; cases b3 <;> cases b2 <;> simp
          clear hp
          obtain rfl := (HI.out.2.2.1) e2
          refine inv_op (o := ⟨some 10, _, _, _, _, _⟩) rfl (fun K' hK' => ?_)
          go_simp
          exact hK'.out _ _ ⟨.mk .., rfl, rfl, Nxt (Nxt (Nxt (Upd (fun _ => rfl)))) HI.out⟩
        · obtain ⟨rfl, e3, e2⟩ : b4 = false ∧ b3 = true ∧ b2 = true := by revert hp; cases b4 <;> cases b3 <;> cases b2 <;> simp
          clear hp
          obtain rfl := (HI.out.2.2.2.1) e3
          obtain rfl := (HI.out.2.2.1) e2
          refine inv_op (o := ⟨some 11, _, _, _, _, _⟩) rfl (fun K' hK' => ?_)
          go_simp
          refine (HS.out W).mono ?_
          rintro e w1 ⟨rfl, rfl⟩
          exact hK'.out _ _ ⟨.mk .., rfl, rfl, Nx4 (Upd (fun _ => rfl)) HI.out⟩
        · obtain ⟨rfl, e2, e4⟩ : b5 = false ∧ b2 = true ∧ b4 = true := by revert hp; cases b5 <;> cases b2 <;> cases b4 <;> simp
          clear hp
          obtain rfl := (HI.out.2.2.1) e2
          obtain rfl := (HI.out.2.2.2.2.1) e4
          refine inv_op (o := ⟨some 12, _, _, _, _, _⟩) rfl (fun K' hK' => ?_)
          go_simp
          exact hK'.out _ _ ⟨.mk .., rfl, rfl, Nxt (Nx4 (Upd (fun _ => rfl))) HI.out⟩
        · obtain ⟨rfl, e5⟩ : b6 = false ∧ b5 = true := by revert hp; cases b6 <;> cases b5 <;> simp
          clear hp
          obtain rfl := (HI.out.2.2.2.2.2.1) e5
          refine inv_op (o := ⟨some 13, _, _, _, _, _⟩) rfl (fun K' hK' => ?_)
          go_simp
          exact hK'.out _ _ ⟨.mk .., rfl, rfl, Nxt (Nxt (Nx4 (Upd (fun _ => rfl)))) HI.out⟩
        · obtain ⟨rfl, e6⟩ : b7 = false ∧ b6 = true := by revert hp; cases b7 <;> cases b6 <;> simp
          clear hp
          obtain rfl := (HI.out.2.2.2.2.2.2.1) e6
          refine inv_op (o := ⟨some 14, _, _, _, _, _⟩) rfl (fun K' hK' => ?_)
          go_simp
          exact hK'.out _ _ ⟨.mk .., rfl, rfl, Nxt (Nxt (Nxt (Nx4 (Upd (fun _ => rfl))))) HI.out⟩
        · obtain ⟨rfl, e7, e6⟩ : b8 = false ∧ b7 = true ∧ b6 = true := by revert hp; cases b8 <;> cases b7 <;> cases b6 <;> simp
          clear hp
          obtain rfl := (HI.out.2.2.2.2.2.2.2.1) e7
          obtain rfl := (HI.out.2.2.2.2.2.2.1) e6
          refine inv_op (o := ⟨some 15, _, _, _, _, _⟩) rfl (fun K' hK' => ?_)
          go_simp
          exact hK'.out _ _ ⟨.mk .., rfl, rfl, Nx4 (Nx4 (Upd (fun _ => rfl))) HI.out⟩
        · obtain ⟨rfl, e6, e8⟩ : b9 = false ∧ b6 = true ∧ b8 = true := by revert hp; cases b9 <;> cases b6 <;> cases b8 <;> simp
          clear hp
          obtain rfl := (HI.out.2.2.2.2.2.2.1) e6
          obtain rfl := (HI.out.2.2.2.2.2.2.2.2.1) e8
          refine inv_op (o := ⟨some 16, _, _, _, _, _⟩) rfl (fun K' hK' => ?_)
          go_simp
          exact hK'.out _ _ ⟨.mk .., rfl, rfl, Nxt (Nx4 (Nx4 (Upd (fun _ => rfl)))) HI.out⟩
        · obtain ⟨rfl, e9⟩ : b10 = false ∧ b9 = true := by revert hp; cases b10 <;> cases b9 <;> simp
          clear hp
          obtain rfl := (HI.out.2.2.2.2.2.2.2.2.2.1) e9
          refine inv_op (o := ⟨some 17, _, _, _, _, _⟩) rfl (fun K' hK' => ?_)
          go_simp
          exact hK'.out _ _ ⟨.mk .., rfl, rfl, Nxt (Nxt (Nx4 (Nx4 (Upd (fun _ => rfl))))) HI.out⟩
        · obtain ⟨rfl, e10⟩ : b11 = false ∧ b10 = true := by revert hp; cases b11 <;> cases b10 <;> simp
          clear hp
          obtain rfl := (HI.out.2.2.2.2.2.2.2.2.2.2.1) e10
          refine inv_op (o := ⟨some 18, _, _, _, _, _⟩) rfl (fun K' hK' => ?_)
          go_simp
          exact hK'.out _ _ ⟨.mk .., rfl, rfl, Nxt (Nxt (Nxt (Nx4 (Nx4 (Upd (fun _ => rfl)))))) HI.out⟩
        · obtain ⟨rfl, e10⟩ : b12 = false ∧ b10 = true := by revert hp; cases b12 <;> cases b10 <;> simp
          clear hp
          obtain rfl := (HI.out.2.2.2.2.2.2.2.2.2.2.1) e10
          refine inv_op (o := ⟨some 19, _, _, _, _, _⟩) rfl (fun K' hK' => ?_)
          go_simp
          exact hK'.out _ _ ⟨.mk .., rfl, rfl, Nx4 (Nx4 (Nx4 (Upd (fun _ => rfl)))) HI.out⟩
        · obtain ⟨rfl, e12, e10⟩ : b13 = false ∧ b12 = true ∧ b10 = true := by revert hp; cases b13 <;> cases b12 <;> cases b10 <;> simp
          clear hp
          obtain rfl := (HI.out.2.2.2.2.2.2.2.2.2.2.2.2.1) e12
          obtain rfl := (HI.out.2.2.2.2.2.2.2.2.2.2.1) e10
          refine inv_op (o := ⟨some 20, _, _, _, _, _⟩) rfl (fun K' hK' => ?_)
          go_simp
          exact hK'.out _ _ ⟨.mk .., rfl, rfl, Nxt (Nx4 (Nx4 (Nx4 (Upd (fun _ => rfl))))) HI.out⟩
        · obtain ⟨rfl, e13, e10⟩ : b14 = false ∧ b13 = true ∧ b10 = true := by revert hp; cases b14 <;> cases b13 <;> cases b10 <;> simp
          clear hp
          obtain rfl := (HI.out.2.2.2.2.2.2.2.2.2.2.2.2.2.1) e13
          obtain rfl := (HI.out.2.2.2.2.2.2.2.2.2.2.1) e10
          refine inv_op (o := ⟨some 21, _, _, _, _, _⟩) rfl (fun K' hK' => ?_)
          go_simp
          exact hK'.out _ _ ⟨.mk .., rfl, rfl, Nxt (Nxt (Nx4 (Nx4 (Nx4 (Upd (fun _ => rfl)))))) HI.out⟩
        · obtain ⟨rfl, e10⟩ : b15 = false ∧ b10 = true := by revert hp; cases b15 <;> cases b10 <;> simp
          clear hp
          obtain rfl := (HI.out.2.2.2.2.2.2.2.2.2.2.1) e10
          refine inv_op (o := ⟨some 22, _, _, _, _, _⟩) rfl (fun K' hK' => ?_)
          go_simp
          exact hK'.out _ _ ⟨.mk .., rfl, rfl, Nxt (Nxt (Nxt (Nx4 (Nx4 (Nx4 (Upd (fun _ => rfl))))))) HI.out⟩
        · obtain ⟨rfl, e15, e10⟩ : b16 = false ∧ b15 = true ∧ b10 = true := by revert hp; cases b16 <;> cases b15 <;> cases b10 <;> simp
          clear hp
          obtain rfl := (HI.out.2.2.2.2.2.2.2.2.2.2.2.2.2.2.2.1) e15
          obtain rfl := (HI.out.2.2.2.2.2.2.2.2.2.2.1) e10
          refine inv_op (o := ⟨some 23, _, _, _, _, _⟩) rfl (fun K' hK' => ?_)
          go_simp
          exact hK'.out _ _ ⟨.mk .., rfl, rfl, Nx16 (Upd (fun _ => rfl)) HI.out⟩
        · have hn17 : b17 = false := by revert hp; cases b17 <;> simp
          have e14 : b14 = true := by revert hp; cases b14 <;> simp
          have e16 : b16 = true := by revert hp; cases b16 <;> simp
          have e10 : b10 = true := by revert hp; cases b10 <;> simp
          clear hp
          obtain rfl := (HI.out.2.2.2.2.2.2.2.2.2.2.2.2.2.2.1) e14
          obtain rfl := (HI.out.2.2.2.2.2.2.2.2.2.2.2.2.2.2.2.2.1) e16
          obtain rfl := (HI.out.2.2.2.2.2.2.2.2.2.2.1) e10
          subst hn17
          refine inv_op (o := ⟨some 24, _, _, _, _, _⟩) rfl (fun K' hK' => ?_)
          go_simp
          exact hK'.out _ _ ⟨.mk .., rfl, rfl, Nxt (Nx16 (Upd (fun _ => rfl))) HI.out⟩
        · have hn18 : b18 = false := by revert hp; cases b18 <;> simp
          have e11 : b11 = true := by revert hp; cases b11 <;> simp
          have e17 : b17 = true := by revert hp; cases b17 <;> simp
          have e10 : b10 = true := by revert hp; cases b10 <;> simp
          clear hp
          obtain rfl := (HI.out.2.2.2.2.2.2.2.2.2.2.2.1) e11
          obtain rfl := (HI.out.2.2.2.2.2.2.2.2.2.2.2.2.2.2.2.2.2.1) e17
          obtain rfl := (HI.out.2.2.2.2.2.2.2.2.2.2.1) e10
          subst hn18
          refine inv_op (o := ⟨some 25, _, _, _, _, _⟩) rfl (fun K' hK' => ?_)
          go_simp
          exact hK'.out _ _ ⟨.mk .., rfl, rfl, Nxt (Nxt (Nx16 (Upd (fun _ => rfl)))) HI.out⟩
        · obtain ⟨rfl, e10, e18⟩ : b19 = false ∧ b10 = true ∧ b18 = true := by revert hp; cases b19 <;> cases b10 <;> cases b18 <;> simp
          clear hp
          obtain rfl := (HI.out.2.2.2.2.2.2.2.2.2.2.1) e10
          obtain rfl := (HI.out.2.2.2.2.2.2.2.2.2.2.2.2.2.2.2.2.2.2.1) e18
          refine inv_op (o := ⟨some 26, _, _, _, _, _⟩) rfl (fun K' hK' => ?_)
          go_simp
          exact hK'.out _ _ ⟨.mk .., rfl, rfl, Nxt (Nxt (Nxt (Nx16 (Upd (fun _ => rfl))))) HI.out⟩
        · obtain ⟨rfl, e19⟩ : b20 = false ∧ b19 = true := by revert hp; cases b20 <;> cases b19 <;> simp
          clear hp
          obtain rfl := (HI.out.2.2.2.2.2.2.2.2.2.2.2.2.2.2.2.2.2.2.2.1) e19
          refine inv_op (o := ⟨some 6, _, _, _, _, _⟩) rfl (fun K' hK' => ?_)
          go_simp
          exact hK'.out _ _ ⟨.mk .., rfl, rfl, Nx4 (Nx16 (Upd (fun _ => rfl))) HI.out⟩
       case hdone =>
        rintro ⟨b0, b1, b2, b3, b4, b5, b6, b7, b8, b9, b10, b11, b12, b13, b14, b15, b16, b17, b18, b19, b20, s7, s8, s9, s10, s11, s12, s13, s14, s15, s16, s17, s18, s19, s20, s21, s22, s23, s24, s25, s26, s6⟩ W hI hall
        dsimp only at hI hall ⊢
        have HI := Lib.hid hI
        clear hI
        obtain rfl : b0 = true := hall 0 (by decide)
        obtain rfl : b1 = true := hall 1 (by decide)
        obtain rfl : b2 = true := hall 2 (by decide)
        obtain rfl : b3 = true := hall 3 (by decide)
        obtain rfl : b4 = true := hall 4 (by decide)
        obtain rfl : b5 = true := hall 5 (by decide)
        obtain rfl : b6 = true := hall 6 (by decide)
        obtain rfl : b7 = true := hall 7 (by decide)
        obtain rfl : b8 = true := hall 8 (by decide)
        obtain rfl : b9 = true := hall 9 (by decide)
        obtain rfl : b10 = true := hall 10 (by decide)
        obtain rfl : b11 = true := hall 11 (by decide)
        obtain rfl : b12 = true := hall 12 (by decide)
        obtain rfl : b13 = true := hall 13 (by decide)
        obtain rfl : b14 = true := hall 14 (by decide)
        obtain rfl : b15 = true := hall 15 (by decide)
        obtain rfl : b16 = true := hall 16 (by decide)
        obtain rfl : b17 = true := hall 17 (by decide)
        obtain rfl : b18 = true := hall 18 (by decide)
        obtain rfl : b19 = true := hall 19 (by decide)
        obtain rfl : b20 = true := hall 20 (by decide)
        obtain rfl := (HI.out.2.2.2.2.2.2.2.2.2.2.2.2.2.2.2.2.2.2.2.2.1) rfl
        have gW := HI.out.2.2.2.2.2.2.2.2.2.2.2.2.2.2.2.2.2.2.2.2.2
        clear HI hall
        have GW := Lib.hid (HB.out.trans (gW.mono HB.out.size))
        clear gW
        go_wp2
        go_ret
        exact ⟨rfl, GW.out⟩
 · obtain rfl : r = false := by rw [← hr, okR, decide_eq_false h1, Bool.false_and]
   have hd := decide_eq_false h1
   have HC := Lib.hid (show ∀ W, Below (w.alloc (.cells #[.slice a n c] 26)).heap.size (w.alloc (.cells #[.slice a n c] 26)) W → Calls Tryz.prog 47 #[.agg #[.slice a n c]] W fun e w' => e = .returned (.bool false) ∧ Below W.heap.size W w' from fun W _ => check_any a n c HN.out false (by rw [hd]) W)
   clear hr h1 hn hd
   go_enter Tryz.func19, Tryz.ntmps19
   go_wp2_with fail
   refine wp_region_rec (X := RngCheck1) (by kernel_rfl) (by kernel_rfl) (fun x => #[x.b0, x.b1, x.b2, x.b3, x.b4, x.b5, x.b6, x.b7, x.b8, x.b9, x.b10, x.b11, x.b12, x.b13, x.b14, x.b15, x.b16, x.b17, x.b18, x.b19, x.b20]) (fun x => { tmps := #[.agg #[.slice a n c], .int .i64 b, .int .i64 z, .pointer (some ⟨w.heap.size, 0, none⟩), undef, undef, x.s6, x.s7, x.s8, x.s9, x.s10, x.s11, x.s12, x.s13, x.s14, x.s15, x.s16, x.s17, x.s18, x.s19, x.s20, x.s21, x.s22, x.s23, x.s24, x.s25, x.s26], defers := [] }) (fun x W => (x.b0 = true → x.s7 = .agg #[.slice a n c]) ∧ (x.b1 = true → x.s8 = .bool false) ∧ (x.b2 = true → x.s9 = .bool false) ∧ (x.b3 = true → x.s10 = undef) ∧ (x.b4 = true → x.s11 = undef) ∧ (x.b5 = true → x.s12 = .bool false) ∧ (x.b6 = true → x.s13 = .bool false) ∧ (x.b7 = true → x.s14 = undef) ∧ (x.b8 = true → x.s15 = undef) ∧ (x.b9 = true → x.s16 = .bool false) ∧ (x.b10 = true → x.s17 = .bool false) ∧ (x.b11 = true → x.s18 = undef) ∧ (x.b12 = true → x.s19 = undef) ∧ (x.b13 = true → x.s20 = undef) ∧ (x.b14 = true → x.s21 = undef) ∧ (x.b15 = true → x.s22 = undef) ∧ (x.b16 = true → x.s23 = undef) ∧ (x.b17 = true → x.s24 = undef) ∧ (x.b18 = true → x.s25 = undef) ∧ (x.b19 = true → x.s26 = .bool false) ∧ (x.b20 = true → x.s6 = .bool false) ∧ (Below (w.alloc (.cells #[.slice a n c] 26)).heap.size (w.alloc (.cells #[.slice a n c] 26)) W)) ⟨false, false, false, false, false, false, false, false, false, false, false, false, false, false, false, false, false, false, false, false, false, undef, undef, undef, undef, undef, undef, undef, undef, undef, undef, undef, undef, undef, undef, undef, undef, undef, undef, undef, undef, .bool false⟩ rfl rfl ⟨(fun h => by cases h), (fun h => by cases h), (fun h => by cases h), (fun h => by cases h), (fun h => by cases h), (fun h => by cases h), (fun h => by cases h), (fun h => by cases h), (fun h => by cases h), (fun h => by cases h), (fun h => by cases h), (fun h => by cases h), (fun h => by cases h), (fun h => by cases h), (fun h => by cases h), (fun h => by cases h), (fun h => by cases h), (fun h => by cases h), (fun h => by cases h), (fun h => by cases h), (fun h => by cases h), (Below.refl _ _).drew⟩ (fun _ => rfl) ?hstep ?hdone
   case hstep =>
    rintro ⟨b0, b1, b2, b3, b4, b5, b6, b7, b8, b9, b10, b11, b12, b13, b14, b15, b16, b17, b18, b19, b20, s7, s8, s9, s10, s11, s12, s13, s14, s15, s16, s17, s18, s19, s20, s21, s22, s23, s24, s25, s26, s6⟩ W hI i hi
    dsimp only at hI hi ⊢
    have HI := Lib.hid hI
    clear hI
    rw [Region.ready, List.mem_filter, List.mem_range] at hi
    obtain ⟨hlt, hp⟩ := hi
    have hi7 : i = 0 ∨ i = 1 ∨ i = 2 ∨ i = 3 ∨ i = 4 ∨ i = 5 ∨ i = 6 ∨ i = 7 ∨ i = 8 ∨ i = 9 ∨ i = 10 ∨ i = 11 ∨ i = 12 ∨ i = 13 ∨ i = 14 ∨ i = 15 ∨ i = 16 ∨ i = 17 ∨ i = 18 ∨ i = 19 ∨ i = 20 := by simp at hlt; omega
    clear hlt
    rcases hi7 with rfl | rfl | rfl | rfl | rfl | rfl | rfl | rfl | rfl | rfl | rfl | rfl | rfl | rfl | rfl | rfl | rfl | rfl | rfl | rfl | rfl
    all_goals simp [Region.binds] at hp
    · obtain rfl : b0 = false := by revert hp; cases b0 <;> simp
      clear hp
      refine inv_op (o := ⟨some 7, _, _, _, _, _⟩) rfl (fun K' hK' => ?_)
      have gW := HI.out.2.2.2.2.2.2.2.2.2.2.2.2.2.2.2.2.2.2.2.2.2
      obtain ⟨hc1, hc2⟩ := HM.out W gW
      go_simp
      exact hK'.out _ _ ⟨.mk .., rfl, rfl, (Upd (fun _ => rfl)) HI.out⟩
    · obtain ⟨rfl, e0⟩ : b1 = false ∧ b0 = true := by revert hp; cases b1 <;> cases b0 <;> simp
      clear hp
      obtain rfl := (HI.out.1) e0
      refine inv_op (o := ⟨some 8, _, _, _, _, _⟩) rfl (fun K' hK' => ?_)
      have gW := HI.out.2.2.2.2.2.2.2.2.2.2.2.2.2.2.2.2.2.2.2.2.2
      go_simp
      refine (HC.out W gW).mono ?_
      rintro e w1 ⟨rfl, bn⟩
      obtain ⟨h0, h1, h2, h3, h4, h5, h6, h7, h8, h9, h10, h11, h12, h13, h14, h15, h16, h17, h18, h19, h20, gW⟩ := HI.out
      exact hK'.out _ _ ⟨.mk .., rfl, rfl, h0, (fun _ => rfl), h2, h3, h4, h5, h6, h7, h8, h9, h10, h11, h12, h13, h14, h15, h16, h17, h18, h19, h20, (gW.trans (bn.mono gW.size))⟩
    · obtain ⟨rfl, e1⟩ : b2 = false ∧ b1 = true := by revert hp; cases b2 <;> cases b1 <;> simp
      clear hp
      obtain rfl := (HI.out.2.1) e1
      refine inv_op (o := ⟨some 9, _, _, _, _, _⟩) rfl (fun K' hK' => ?_)
      go_simp
      exact hK'.out _ _ ⟨.mk .., rfl, rfl, Nxt (Nxt (Upd (fun _ => rfl))) HI.out⟩
    · obtain ⟨rfl, e2⟩ : b3 = false ∧ b2 = true := by revert hp; cases b3 <;> cases b2 <;> simp
      clear hp
      obtain rfl := (HI.out.2.2.1) e2
      refine inv_op (o := ⟨some 10, _, _, _, _, _⟩) rfl (fun K' hK' => ?_)
      go_simp
      exact hK'.out _ _ ⟨.mk .., rfl, rfl, Nxt (Nxt (Nxt (Upd (fun _ => rfl)))) HI.out⟩
    · obtain ⟨rfl, e3, e2⟩ : b4 = false ∧ b3 = true ∧ b2 = true := by revert hp; cases b4 <;> cases b3 <;> cases b2 <;> simp
      clear hp
      obtain rfl := (HI.out.2.2.2.1) e3
      obtain rfl := (HI.out.2.2.1) e2
      refine inv_op (o := ⟨some 11, _, _, _, _, _⟩) rfl (fun K' hK' => ?_)
      go_simp
      exact hK'.out _ _ ⟨.mk .., rfl, rfl, Nx4 (Upd (fun _ => rfl)) HI.out⟩
    · obtain ⟨rfl, e2, e4⟩ : b5 = false ∧ b2 = true ∧ b4 = true := by revert hp; cases b5 <;> cases b2 <;> cases b4 <;> simp
      clear hp
      obtain rfl := (HI.out.2.2.1) e2
      obtain rfl := (HI.out.2.2.2.2.1) e4
      refine inv_op (o := ⟨some 12, _, _, _, _, _⟩) rfl (fun K' hK' => ?_)
      go_simp
      exact hK'.out _ _ ⟨.mk .., rfl, rfl, Nxt (Nx4 (Upd (fun _ => rfl))) HI.out⟩
    · obtain ⟨rfl, e5⟩ : b6 = false ∧ b5 = true := by revert hp; cases b6 <;> cases b5 <;> simp
      clear hp
      obtain rfl := (HI.out.2.2.2.2.2.1) e5
      refine inv_op (o := ⟨some 13, _, _, _, _, _⟩) rfl (fun K' hK' => ?_)
      go_simp
      exact hK'.out _ _ ⟨.mk .., rfl, rfl, Nxt (Nxt (Nx4 (Upd (fun _ => rfl)))) HI.out⟩
    · obtain ⟨rfl, e6⟩ : b7 = false ∧ b6 = true := by revert hp; cases b7 <;> cases b6 <;> simp
      clear hp
      obtain rfl := (HI.out.2.2.2.2.2.2.1) e6
      refine inv_op (o := ⟨some 14, _, _, _, _, _⟩) rfl (fun K' hK' => ?_)
      go_simp
      exact hK'.out _ _ ⟨.mk .., rfl, rfl, Nxt (Nxt (Nxt (Nx4 (Upd (fun _ => rfl))))) HI.out⟩
    · obtain ⟨rfl, e7, e6⟩ : b8 = false ∧ b7 = true ∧ b6 = true := by revert hp; cases b8 <;> cases b7 <;> cases b6 <;> simp
      clear hp
      obtain rfl := (HI.out.2.2.2.2.2.2.2.1) e7
      obtain rfl := (HI.out.2.2.2.2.2.2.1) e6
      refine inv_op (o := ⟨some 15, _, _, _, _, _⟩) rfl (fun K' hK' => ?_)
      go_simp
      exact hK'.out _ _ ⟨.mk .., rfl, rfl, Nx4 (Nx4 (Upd (fun _ => rfl))) HI.out⟩
    · obtain ⟨rfl, e6, e8⟩ : b9 = false ∧ b6 = true ∧ b8 = true := by revert hp; cases b9 <;> cases b6 <;> cases b8 <;> simp
      clear hp
      obtain rfl := (HI.out.2.2.2.2.2.2.1) e6
      obtain rfl := (HI.out.2.2.2.2.2.2.2.2.1) e8
      refine inv_op (o := ⟨some 16, _, _, _, _, _⟩) rfl (fun K' hK' => ?_)
      go_simp
      exact hK'.out _ _ ⟨.mk .., rfl, rfl, Nxt (Nx4 (Nx4 (Upd (fun _ => rfl)))) HI.out⟩
    · obtain ⟨rfl, e9⟩ : b10 = false ∧ b9 = true := by revert hp; cases b10 <;> cases b9 <;> simp
      clear hp
      obtain rfl := (HI.out.2.2.2.2.2.2.2.2.2.1) e9
      refine inv_op (o := ⟨some 17, _, _, _, _, _⟩) rfl (fun K' hK' => ?_)
      go_simp
      exact hK'.out _ _ ⟨.mk .., rfl, rfl, Nxt (Nxt (Nx4 (Nx4 (Upd (fun _ => rfl))))) HI.out⟩
    · obtain ⟨rfl, e10⟩ : b11 = false ∧ b10 = true := by revert hp; cases b11 <;> cases b10 <;> simp
      clear hp
      obtain rfl := (HI.out.2.2.2.2.2.2.2.2.2.2.1) e10
      refine inv_op (o := ⟨some 18, _, _, _, _, _⟩) rfl (fun K' hK' => ?_)
      go_simp
      exact hK'.out _ _ ⟨.mk .., rfl, rfl, Nxt (Nxt (Nxt (Nx4 (Nx4 (Upd (fun _ => rfl)))))) HI.out⟩
    · obtain ⟨rfl, e10⟩ : b12 = false ∧ b10 = true := by revert hp; cases b12 <;> cases b10 <;> simp
      clear hp
      obtain rfl := (HI.out.2.2.2.2.2.2.2.2.2.2.1) e10
      refine inv_op (o := ⟨some 19, _, _, _, _, _⟩) rfl (fun K' hK' => ?_)
      go_simp
      exact hK'.out _ _ ⟨.mk .., rfl, rfl, Nx4 (Nx4 (Nx4 (Upd (fun _ => rfl)))) HI.out⟩
    · obtain ⟨rfl, e12, e10⟩ : b13 = false ∧ b12 = true ∧ b10 = true := by revert hp; cases b13 <;> cases b12 <;> cases b10 <;> simp
      clear hp
      obtain rfl := (HI.out.2.2.2.2.2.2.2.2.2.2.2.2.1) e12
      obtain rfl := (HI.out.2.2.2.2.2.2.2.2.2.2.1) e10
      refine inv_op (o := ⟨some 20, _, _, _, _, _⟩) rfl (fun K' hK' => ?_)
      go_simp
      exact hK'.out _ _ ⟨.mk .., rfl, rfl, Nxt (Nx4 (Nx4 (Nx4 (Upd (fun _ => rfl))))) HI.out⟩
    · obtain ⟨rfl, e13, e10⟩ : b14 = false ∧ b13 = true ∧ b10 = true := by revert hp; cases b14 <;> cases b13 <;> cases b10 <;> simp
      clear hp
      obtain rfl := (HI.out.2.2.2.2.2.2.2.2.2.2.2.2.2.1) e13
      obtain rfl := (HI.out.2.2.2.2.2.2.2.2.2.2.1) e10
      refine inv_op (o := ⟨some 21, _, _, _, _, _⟩) rfl (fun K' hK' => ?_)
      go_simp
      exact hK'.out _ _ ⟨.mk .., rfl, rfl, Nxt (Nxt (Nx4 (Nx4 (Nx4 (Upd (fun _ => rfl)))))) HI.out⟩
    · obtain ⟨rfl, e10⟩ : b15 = false ∧ b10 = true := by revert hp; cases b15 <;> cases b10 <;> simp
      clear hp
      obtain rfl := (HI.out.2.2.2.2.2.2.2.2.2.2.1) e10
      refine inv_op (o := ⟨some 22, _, _, _, _, _⟩) rfl (fun K' hK' => ?_)
      go_simp
      exact hK'.out _ _ ⟨.mk .., rfl, rfl, Nxt (Nxt (Nxt (Nx4 (Nx4 (Nx4 (Upd (fun _ => rfl))))))) HI.out⟩
    · obtain ⟨rfl, e15, e10⟩ : b16 = false ∧ b15 = true ∧ b10 = true := by revert hp; cases b16 <;> cases b15 <;> cases b10 <;> simp
      clear hp
      obtain rfl := (HI.out.2.2.2.2.2.2.2.2.2.2.2.2.2.2.2.1) e15
      obtain rfl := (HI.out.2.2.2.2.2.2.2.2.2.2.1) e10
      refine inv_op (o := ⟨some 23, _, _, _, _, _⟩) rfl (fun K' hK' => ?_)
      go_simp
      exact hK'.out _ _ ⟨.mk .., rfl, rfl, Nx16 (Upd (fun _ => rfl)) HI.out⟩
    · have hn17 : b17 = false := by revert hp; cases b17 <;> simp
      have e14 : b14 = true := by revert hp; cases b14 <;> simp
      have e16 : b16 = true := by revert hp; cases b16 <;> simp
      have e10 : b10 = true := by revert hp; cases b10 <;> simp
      clear hp
      obtain rfl := (HI.out.2.2.2.2.2.2.2.2.2.2.2.2.2.2.1) e14
      obtain rfl := (HI.out.2.2.2.2.2.2.2.2.2.2.2.2.2.2.2.2.1) e16
      obtain rfl := (HI.out.2.2.2.2.2.2.2.2.2.2.1) e10
      subst hn17
      refine inv_op (o := ⟨some 24, _, _, _, _, _⟩) rfl (fun K' hK' => ?_)
      go_simp
      exact hK'.out _ _ ⟨.mk .., rfl, rfl, Nxt (Nx16 (Upd (fun _ => rfl))) HI.out⟩
    · have hn18 : b18 = false := by revert hp; cases b18 <;> simp
      have e11 : b11 = true := by revert hp; cases b11 <;> simp
      have e17 : b17 = true := by revert hp; cases b17 <;> simp
      have e10 : b10 = true := by revert hp; cases b10 <;> simp
      clear hp
      obtain rfl := (HI.out.2.2.2.2.2.2.2.2.2.2.2.1) e11
      obtain rfl := (HI.out.2.2.2.2.2.2.2.2.2.2.2.2.2.2.2.2.2.1) e17
      obtain rfl := (HI.out.2.2.2.2.2.2.2.2.2.2.1) e10
      subst hn18
      refine inv_op (o := ⟨some 25, _, _, _, _, _⟩) rfl (fun K' hK' => ?_)
      go_simp
      exact hK'.out _ _ ⟨.mk .., rfl, rfl, Nxt (Nxt (Nx16 (Upd (fun _ => rfl)))) HI.out⟩
    · obtain ⟨rfl, e10, e18⟩ : b19 = false ∧ b10 = true ∧ b18 = true := by revert hp; cases b19 <;> cases b10 <;> cases b18 <;> simp
      clear hp
      obtain rfl := (HI.out.2.2.2.2.2.2.2.2.2.2.1) e10
      obtain rfl := (HI.out.2.2.2.2.2.2.2.2.2.2.2.2.2.2.2.2.2.2.1) e18
      refine inv_op (o := ⟨some 26, _, _, _, _, _⟩) rfl (fun K' hK' => ?_)
      go_simp
      exact hK'.out _ _ ⟨.mk .., rfl, rfl, Nxt (Nxt (Nxt (Nx16 (Upd (fun _ => rfl))))) HI.out⟩
    · obtain ⟨rfl, e19⟩ : b20 = false ∧ b19 = true := by revert hp; cases b20 <;> cases b19 <;> simp
      clear hp
      obtain rfl := (HI.out.2.2.2.2.2.2.2.2.2.2.2.2.2.2.2.2.2.2.2.1) e19
      refine inv_op (o := ⟨some 6, _, _, _, _, _⟩) rfl (fun K' hK' => ?_)
      go_simp
      exact hK'.out _ _ ⟨.mk .., rfl, rfl, Nx4 (Nx16 (Upd (fun _ => rfl))) HI.out⟩
   case hdone =>
    rintro ⟨b0, b1, b2, b3, b4, b5, b6, b7, b8, b9, b10, b11, b12, b13, b14, b15, b16, b17, b18, b19, b20, s7, s8, s9, s10, s11, s12, s13, s14, s15, s16, s17, s18, s19, s20, s21, s22, s23, s24, s25, s26, s6⟩ W hI hall
    dsimp only at hI hall ⊢
    have HI := Lib.hid hI
    clear hI
    obtain rfl : b0 = true := hall 0 (by decide)
    obtain rfl : b1 = true := hall 1 (by decide)
    obtain rfl : b2 = true := hall 2 (by decide)
    obtain rfl : b3 = true := hall 3 (by decide)
    obtain rfl : b4 = true := hall 4 (by decide)
    obtain rfl : b5 = true := hall 5 (by decide)
    obtain rfl : b6 = true := hall 6 (by decide)
    obtain rfl : b7 = true := hall 7 (by decide)
    obtain rfl : b8 = true := hall 8 (by decide)
    obtain rfl : b9 = true := hall 9 (by decide)
    obtain rfl : b10 = true := hall 10 (by decide)
    obtain rfl : b11 = true := hall 11 (by decide)
    obtain rfl : b12 = true := hall 12 (by decide)
    obtain rfl : b13 = true := hall 13 (by decide)
    obtain rfl : b14 = true := hall 14 (by decide)
    obtain rfl : b15 = true := hall 15 (by decide)
    obtain rfl : b16 = true := hall 16 (by decide)
    obtain rfl : b17 = true := hall 17 (by decide)
    obtain rfl : b18 = true := hall 18 (by decide)
    obtain rfl : b19 = true := hall 19 (by decide)
    obtain rfl : b20 = true := hall 20 (by decide)
    obtain rfl := (HI.out.2.2.2.2.2.2.2.2.2.2.2.2.2.2.2.2.2.2.2.2.1) rfl
    have gW := HI.out.2.2.2.2.2.2.2.2.2.2.2.2.2.2.2.2.2.2.2.2.2
    clear HI hall
    have GW := Lib.hid (HB.out.trans (gW.mono HB.out.size))
    clear gW
    go_wp2
    go_ret
    exact ⟨rfl, GW.out⟩
set_option maxHeartbeats 4000000 in
set_option maxRecDepth 100000 in
theorem refRingCheck_any (a : Option Addr) (n c : Nat) (hn : n ≤ maxLen) (b z : Int) (r : Bool) (hr : okR n b z = r) (w : World) :
 Calls Tryz.prog 33 #[.agg #[.slice a n c], .int .i64 b, .int .i64 z] w fun e w' => e = .returned (.bool r) ∧ Below w.heap.size w w' := by
 unfold maxLen at hn
 have HB := Lib.hid ((Below.refl w.heap.size w).alloc (Nat.le_refl _) (.cells #[.slice a n c] 26))
 have HM := Lib.hid (mem_box w a n c)
 have hn9 : n ≤ maxLen := by unfold maxLen; omega
 have HN := Lib.hid hn9
 clear hn9
 by_cases h1 : n ≤ 8192
 · cases h2 : rightB z with
   | false =>
     obtain rfl : r = false := by rw [← hr, okR, h2, Bool.false_and, Bool.and_false]
     have hd := decide_eq_true h1
     have HC := Lib.hid (show ∀ W, Below (w.alloc (.cells #[.slice a n c] 26)).heap.size (w.alloc (.cells #[.slice a n c] 26)) W → Calls Tryz.prog 69 #[.agg #[.slice a n c]] W fun e w' => e = .returned (.bool true) ∧ Below W.heap.size W w' from fun W _ => refCheck_any a n c HN.out true (by rw [hd]) W)
     have HS := Lib.hid (show ∀ W, Calls Tryz.prog 70 #[.int .i64 z] W fun e w' => e = .returned (.bool false) ∧ w' = W from fun W => refRight_any z false h2 W)
     clear hr h1 h2 hn hd
     go_enter Tryz.func33, Tryz.ntmps33
     go_wp2_with fail
     refine wp_region_rec (X := RefRngCheck2) (by kernel_rfl) (by kernel_rfl) (fun x => #[x.b0, x.b1, x.b2, x.b3, x.b4, x.b5, x.b6, x.b7, x.b8, x.b9, x.b10, x.b11, x.b12, x.b13]) (fun x => { tmps := #[.agg #[.slice a n c], .int .i64 b, .int .i64 z, .pointer (some ⟨w.heap.size, 0, none⟩), undef, undef, x.s6, x.s7, x.s8, x.s9, x.s10, x.s11, x.s12, x.s13, x.s14, x.s15, x.s16, x.s17, x.s18, x.s19], defers := [] }) (fun x W => (x.b0 = true → x.s7 = .agg #[.slice a n c]) ∧ (x.b1 = true → x.s8 = .bool true) ∧ (x.b2 = true → x.s9 = .bool true) ∧ (x.b3 = true → x.s10 = .int .i64 z) ∧ (x.b4 = true → x.s11 = .bool false) ∧ (x.b5 = true → x.s12 = .bool false) ∧ (x.b6 = true → x.s13 = .bool false) ∧ (x.b7 = true → x.s14 = undef) ∧ (x.b8 = true → x.s15 = undef) ∧ (x.b9 = true → x.s16 = undef) ∧ (x.b10 = true → x.s17 = undef) ∧ (x.b11 = true → x.s18 = undef) ∧ (x.b12 = true → x.s19 = .bool false) ∧ (x.b13 = true → x.s6 = .bool false) ∧ (Below (w.alloc (.cells #[.slice a n c] 26)).heap.size (w.alloc (.cells #[.slice a n c] 26)) W)) ⟨false, false, false, false, false, false, false, false, false, false, false, false, false, false, undef, undef, undef, undef, undef, undef, undef, undef, undef, undef, undef, undef, undef, .bool false⟩ rfl rfl ⟨(fun h => by cases h), (fun h => by cases h), (fun h => by cases h), (fun h => by cases h), (fun h => by cases h), (fun h => by cases h), (fun h => by cases h), (fun h => by cases h), (fun h => by cases h), (fun h => by cases h), (fun h => by cases h), (fun h => by cases h), (fun h => by cases h), (fun h => by cases h), (Below.refl _ _).drew⟩ (fun _ => rfl) ?hstep ?hdone
     case hstep =>
      rintro ⟨b0, b1, b2, b3, b4, b5, b6, b7, b8, b9, b10, b11, b12, b13, s7, s8, s9, s10, s11, s12, s13, s14, s15, s16, s17, s18, s19, s6⟩ W hI i hi
      dsimp only at hI hi ⊢
      have HI := Lib.hid hI
      clear hI
      rw [Region.ready, List.mem_filter, List.mem_range] at hi
      obtain ⟨hlt, hp⟩ := hi
      have hi7 : i = 0 ∨ i = 1 ∨ i = 2 ∨ i = 3 ∨ i = 4 ∨ i = 5 ∨ i = 6 ∨ i = 7 ∨ i = 8 ∨ i = 9 ∨ i = 10 ∨ i = 11 ∨ i = 12 ∨ i = 13 := by simp at hlt; omega
      clear hlt
      rcases hi7 with rfl | rfl | rfl | rfl | rfl | rfl | rfl | rfl | rfl | rfl | rfl | rfl | rfl | rfl
      all_goals simp [Region.binds] at hp
      · obtain rfl : b0 = false := by revert hp; cases b0 <;> simp
        clear hp
        refine inv_op (o := ⟨some 7, _, _, _, _, _⟩) rfl (fun K' hK' => ?_)
        have gW := HI.out.2.2.2.2.2.2.2.2.2.2.2.2.2.2
        obtain ⟨hc1, hc2⟩ := HM.out W gW
        go_simp
        exact hK'.out _ _ ⟨.mk .., rfl, rfl, (Upd (fun _ => rfl)) HI.out⟩
      · obtain ⟨rfl, e0⟩ : b1 = false ∧ b0 = true := by revert hp; cases b1 <;> cases b0 <;> simp
        clear hp
        obtain rfl := (HI.out.1) e0
        refine inv_op (o := ⟨some 8, _, _, _, _, _⟩) rfl (fun K' hK' => ?_)
        have gW := HI.out.2.2.2.2.2.2.2.2.2.2.2.2.2.2
        go_simp
        refine (HC.out W gW).mono ?_
        rintro e w1 ⟨rfl, bn⟩
        obtain ⟨h0, h1, h2, h3, h4, h5, h6, h7, h8, h9, h10, h11, h12, h13, gW⟩ := HI.out
        exact hK'.out _ _ ⟨.mk .., rfl, rfl, h0, (fun _ => rfl), h2, h3, h4, h5, h6, h7, h8, h9, h10, h11, h12, h13, (gW.trans (bn.mono gW.size))⟩
      · obtain ⟨rfl, e1⟩ : b2 = false ∧ b1 = true := by revert hp; cases b2 <;> cases b1 <;> simp
        clear hp
        obtain rfl := (HI.out.2.1) e1
        refine inv_op (o := ⟨some 9, _, _, _, _, _⟩) rfl (fun K' hK' => ?_)
        go_simp
        exact hK'.out _ _ ⟨.mk .., rfl, rfl, Nxt (Nxt (Upd (fun _ => rfl))) HI.out⟩
      · obtain ⟨rfl, e2⟩ : b3 = false ∧ b2 = true := by revert hp; cases b3 <;> cases b2 <;> simp
        clear hp
        obtain rfl := (HI.out.2.2.1) e2
        refine inv_op (o := ⟨some 10, _, _, _, _, _⟩) rfl (fun K' hK' => ?_)
        go_simp
        exact hK'.out _ _ ⟨.mk .., rfl, rfl, Nxt (Nxt (Nxt (Upd (fun _ => rfl)))) HI.out⟩
      · obtain ⟨rfl, e3, e2⟩ : b4 = false ∧ b3 = true ∧ b2 = true := by revert hp; cases b4 <;> cases b3 <;> cases b2 <;> simp
        clear hp
        obtain rfl := (HI.out.2.2.2.1) e3
        obtain rfl := (HI.out.2.2.1) e2
        refine inv_op (o := ⟨some 11, _, _, _, _, _⟩) rfl (fun K' hK' => ?_)
        go_simp
        refine (HS.out W).mono ?_
        rintro e w1 ⟨rfl, rfl⟩
        exact hK'.out _ _ ⟨.mk .., rfl, rfl, Nx4 (Upd (fun _ => rfl)) HI.out⟩
      · obtain ⟨rfl, e2, e4⟩ : b5 = false ∧ b2 = true ∧ b4 = true := by revert hp; cases b5 <;> cases b2 <;> cases b4 <;> simp
        clear hp
        obtain rfl := (HI.out.2.2.1) e2
        obtain rfl := (HI.out.2.2.2.2.1) e4
        refine inv_op (o := ⟨some 12, _, _, _, _, _⟩) rfl (fun K' hK' => ?_)
        go_simp
        exact hK'.out _ _ ⟨.mk .., rfl, rfl, Nxt (Nx4 (Upd (fun _ => rfl))) HI.out⟩
      · obtain ⟨rfl, e5⟩ : b6 = false ∧ b5 = true := by revert hp; cases b6 <;> cases b5 <;> simp
        clear hp
        obtain rfl := (HI.out.2.2.2.2.2.1) e5
        refine inv_op (o := ⟨some 13, _, _, _, _, _⟩) rfl (fun K' hK' => ?_)
        go_simp
        exact hK'.out _ _ ⟨.mk .., rfl, rfl, Nxt (Nxt (Nx4 (Upd (fun _ => rfl)))) HI.out⟩
      · obtain ⟨rfl, e6⟩ : b7 = false ∧ b6 = true := by revert hp; cases b7 <;> cases b6 <;> simp
        clear hp
        obtain rfl := (HI.out.2.2.2.2.2.2.1) e6
        refine inv_op (o := ⟨some 14, _, _, _, _, _⟩) rfl (fun K' hK' => ?_)
        go_simp
        exact hK'.out _ _ ⟨.mk .., rfl, rfl, Nxt (Nxt (Nxt (Nx4 (Upd (fun _ => rfl))))) HI.out⟩
      · obtain ⟨rfl, e6⟩ : b8 = false ∧ b6 = true := by revert hp; cases b8 <;> cases b6 <;> simp
        clear hp
        obtain rfl := (HI.out.2.2.2.2.2.2.1) e6
        refine inv_op (o := ⟨some 15, _, _, _, _, _⟩) rfl (fun K' hK' => ?_)
        go_simp
        exact hK'.out _ _ ⟨.mk .., rfl, rfl, Nx4 (Nx4 (Upd (fun _ => rfl))) HI.out⟩
      · obtain ⟨rfl, e6⟩ : b9 = false ∧ b6 = true := by revert hp; cases b9 <;> cases b6 <;> simp
        clear hp
        obtain rfl := (HI.out.2.2.2.2.2.2.1) e6
        refine inv_op (o := ⟨some 16, _, _, _, _, _⟩) rfl (fun K' hK' => ?_)
        go_simp
        exact hK'.out _ _ ⟨.mk .., rfl, rfl, Nxt (Nx4 (Nx4 (Upd (fun _ => rfl)))) HI.out⟩
      · obtain ⟨rfl, e9, e6⟩ : b10 = false ∧ b9 = true ∧ b6 = true := by revert hp; cases b10 <;> cases b9 <;> cases b6 <;> simp
        clear hp
        obtain rfl := (HI.out.2.2.2.2.2.2.2.2.2.1) e9
        obtain rfl := (HI.out.2.2.2.2.2.2.1) e6
        refine inv_op (o := ⟨some 17, _, _, _, _, _⟩) rfl (fun K' hK' => ?_)
        go_simp
        exact hK'.out _ _ ⟨.mk .., rfl, rfl, Nxt (Nxt (Nx4 (Nx4 (Upd (fun _ => rfl))))) HI.out⟩
      · have hn11 : b11 = false := by revert hp; cases b11 <;> simp
        have e7 : b7 = true := by revert hp; cases b7 <;> simp
        have e8 : b8 = true := by revert hp; cases b8 <;> simp
        have e10 : b10 = true := by revert hp; cases b10 <;> simp
        have e6 : b6 = true := by revert hp; cases b6 <;> simp
        clear hp
        obtain rfl := (HI.out.2.2.2.2.2.2.2.1) e7
        obtain rfl := (HI.out.2.2.2.2.2.2.2.2.1) e8
        obtain rfl := (HI.out.2.2.2.2.2.2.2.2.2.2.1) e10
        obtain rfl := (HI.out.2.2.2.2.2.2.1) e6
        subst hn11
        refine inv_op (o := ⟨some 18, _, _, _, _, _⟩) rfl (fun K' hK' => ?_)
        go_simp
        exact hK'.out _ _ ⟨.mk .., rfl, rfl, Nxt (Nxt (Nxt (Nx4 (Nx4 (Upd (fun _ => rfl)))))) HI.out⟩
      · obtain ⟨rfl, e6, e11⟩ : b12 = false ∧ b6 = true ∧ b11 = true := by revert hp; cases b12 <;> cases b6 <;> cases b11 <;> simp
        clear hp
        obtain rfl := (HI.out.2.2.2.2.2.2.1) e6
        obtain rfl := (HI.out.2.2.2.2.2.2.2.2.2.2.2.1) e11
        refine inv_op (o := ⟨some 19, _, _, _, _, _⟩) rfl (fun K' hK' => ?_)
        go_simp
        exact hK'.out _ _ ⟨.mk .., rfl, rfl, Nx4 (Nx4 (Nx4 (Upd (fun _ => rfl)))) HI.out⟩
      · obtain ⟨rfl, e12⟩ : b13 = false ∧ b12 = true := by revert hp; cases b13 <;> cases b12 <;> simp
        clear hp
        obtain rfl := (HI.out.2.2.2.2.2.2.2.2.2.2.2.2.1) e12
        refine inv_op (o := ⟨some 6, _, _, _, _, _⟩) rfl (fun K' hK' => ?_)
        go_simp
        exact hK'.out _ _ ⟨.mk .., rfl, rfl, Nxt (Nx4 (Nx4 (Nx4 (Upd (fun _ => rfl))))) HI.out⟩
     case hdone =>
      rintro ⟨b0, b1, b2, b3, b4, b5, b6, b7, b8, b9, b10, b11, b12, b13, s7, s8, s9, s10, s11, s12, s13, s14, s15, s16, s17, s18, s19, s6⟩ W hI hall
      dsimp only at hI hall ⊢
      have HI := Lib.hid hI
      clear hI
      obtain rfl : b0 = true := hall 0 (by decide)
      obtain rfl : b1 = true := hall 1 (by decide)
      obtain rfl : b2 = true := hall 2 (by decide)
      obtain rfl : b3 = true := hall 3 (by decide)
      obtain rfl : b4 = true := hall 4 (by decide)
      obtain rfl : b5 = true := hall 5 (by decide)
      obtain rfl : b6 = true := hall 6 (by decide)
      obtain rfl : b7 = true := hall 7 (by decide)
      obtain rfl : b8 = true := hall 8 (by decide)
      obtain rfl : b9 = true := hall 9 (by decide)
      obtain rfl : b10 = true := hall 10 (by decide)
      obtain rfl : b11 = true := hall 11 (by decide)
      obtain rfl : b12 = true := hall 12 (by decide)
      obtain rfl : b13 = true := hall 13 (by decide)
      obtain rfl := (HI.out.2.2.2.2.2.2.2.2.2.2.2.2.2.1) rfl
      have gW := HI.out.2.2.2.2.2.2.2.2.2.2.2.2.2.2
      clear HI hall
      have GW := Lib.hid (HB.out.trans (gW.mono HB.out.size))
      clear gW
      go_wp2
      go_ret
      exact ⟨rfl, GW.out⟩
   | true =>
     have hd := decide_eq_true h1
     have h2' := h2
     have HC := Lib.hid (show ∀ W, Below (w.alloc (.cells #[.slice a n c] 26)).heap.size (w.alloc (.cells #[.slice a n c] 26)) W → Calls Tryz.prog 69 #[.agg #[.slice a n c]] W fun e w' => e = .returned (.bool true) ∧ Below W.heap.size W w' from fun W _ => refCheck_any a n c HN.out true (by rw [hd]) W)
     have HS := Lib.hid (show ∀ W, Calls Tryz.prog 70 #[.int .i64 z] W fun e w' => e = .returned (.bool true) ∧ w' = W from fun W => refRight_any z true h2' W)
     obtain ⟨q, hq⟩ : ∃ q, q = sizeZ z := ⟨_, rfl⟩
     have HZ := Lib.hid (show ∀ W, Calls Tryz.prog 72 #[.int .i64 z] W fun e w' => e = .returned (.int .i64 q) ∧ w' = W from fun W => refSize_any z q hq.symm W)
     have HIN := Lib.hid (show ∀ W, Below (w.alloc (.cells #[.slice a n c] 26)).heap.size (w.alloc (.cells #[.slice a n c] 26)) W → Calls Tryz.prog 71 #[.agg #[.slice a n c], .int .i64 b, .int .i64 q] W fun e w' => e = .returned (.bool r) ∧ Below W.heap.size W w' from fun W _ => inside_any a n c h1 b q (by
      obtain ⟨N, rfl, hN⟩ := right_of h2
      have h3 := sizeN_le N
      have h4 := hN.le
      rw [hq, sizeZ_of hN]
      omega) r (by
      obtain ⟨N, rfl, hN⟩ := right_of h2
      have h3 := sizeN_le N
      have h4 := hN.le
      rw [← hr, okR, h2, hd, Bool.true_and, Bool.true_and, hq, sizeZ_of hN, faultOf, if_pos h1]
      by_cases h5 : 0 ≤ b ∧ b ≤ (n : Int) - (sizeN N : Nat)
      · rw [decide_eq_true h5, if_pos (by omega), decide_eq_true rfl]
      · rw [decide_eq_false h5, if_neg (by omega), decide_eq_false (by decide)]) W)
     clear hr h1 h2 hn hd hq h2'
     go_enter Tryz.func33, Tryz.ntmps33
     go_wp2_with fail
     refine wp_region_rec (X := RefRngCheck3) (by kernel_rfl) (by kernel_rfl) (fun x => #[x.b0, x.b1, x.b2, x.b3, x.b4, x.b5, x.b6, x.b7, x.b8, x.b9, x.b10, x.b11, x.b12, x.b13]) (fun x => { tmps := #[.agg #[.slice a n c], .int .i64 b, .int .i64 z, .pointer (some ⟨w.heap.size, 0, none⟩), undef, undef, x.s6, x.s7, x.s8, x.s9, x.s10, x.s11, x.s12, x.s13, x.s14, x.s15, x.s16, x.s17, x.s18, x.s19], defers := [] }) (fun x W => (x.b0 = true → x.s7 = .agg #[.slice a n c]) ∧ (x.b1 = true → x.s8 = .bool true) ∧ (x.b2 = true → x.s9 = .bool true) ∧ (x.b3 = true → x.s10 = .int .i64 z) ∧ (x.b4 = true → x.s11 = .bool true) ∧ (x.b5 = true → x.s12 = .bool true) ∧ (x.b6 = true → x.s13 = .bool true) ∧ (x.b7 = true → x.s14 = .agg #[.slice a n c]) ∧ (x.b8 = true → x.s15 = .int .i64 b) ∧ (x.b9 = true → x.s16 = .int .i64 z) ∧ (x.b10 = true → x.s17 = .int .i64 q) ∧ (x.b11 = true → x.s18 = .bool r) ∧ (x.b12 = true → x.s19 = .bool r) ∧ (x.b13 = true → x.s6 = .bool r) ∧ (Below (w.alloc (.cells #[.slice a n c] 26)).heap.size (w.alloc (.cells #[.slice a n c] 26)) W)) ⟨false, false, false, false, false, false, false, false, false, false, false, false, false, false, undef, undef, undef, undef, undef, undef, undef, undef, undef, undef, undef, undef, undef, .bool false⟩ rfl rfl ⟨(fun h => by cases h), (fun h => by cases h), (fun h => by cases h), (fun h => by cases h), (fun h => by cases h), (fun h => by cases h), (fun h => by cases h), (fun h => by cases h), (fun h => by cases h), (fun h => by cases h), (fun h => by cases h), (fun h => by cases h), (fun h => by cases h), (fun h => by cases h), (Below.refl _ _).drew⟩ (fun _ => rfl) ?hstep ?hdone
     case hstep =>
      rintro ⟨b0, b1, b2, b3, b4, b5, b6, b7, b8, b9, b10, b11, b12, b13, s7, s8, s9, s10, s11, s12, s13, s14, s15, s16, s17, s18, s19, s6⟩ W hI i hi
      dsimp only at hI hi ⊢
      have HI := Lib.hid hI
      clear hI
      rw [Region.ready, List.mem_filter, List.mem_range] at hi
      obtain ⟨hlt, hp⟩ := hi
      have hi7 : i = 0 ∨ i = 1 ∨ i = 2 ∨ i = 3 ∨ i = 4 ∨ i = 5 ∨ i = 6 ∨ i = 7 ∨ i = 8 ∨ i = 9 ∨ i = 10 ∨ i = 11 ∨ i = 12 ∨ i = 13 := by simp at hlt; omega
      clear hlt
      rcases hi7 with rfl | rfl | rfl | rfl | rfl | rfl | rfl | rfl | rfl | rfl | rfl | rfl | rfl | rfl
      all_goals simp [Region.binds] at hp
      · obtain rfl : b0 = false := by revert hp; cases b0 <;> simp
        clear hp
        refine inv_op (o := ⟨some 7, _, _, _, _, _⟩) rfl (fun K' hK' => ?_)
        have gW := HI.out.2.2.2.2.2.2.2.2.2.2.2.2.2.2
        obtain ⟨hc1, hc2⟩ := HM.out W gW
        go_simp
        exact hK'.out _ _ ⟨.mk .., rfl, rfl, (Upd (fun _ => rfl)) HI.out⟩
      · obtain ⟨rfl, e0⟩ : b1 = false ∧ b0 = true := by revert hp; cases b1 <;> cases b0 <;> simp
        clear hp
        obtain rfl := (HI.out.1) e0
        refine inv_op (o := ⟨some 8, _, _, _, _, _⟩) rfl (fun K' hK' => ?_)
        have gW := HI.out.2.2.2.2.2.2.2.2.2.2.2.2.2.2
        go_simp
        refine (HC.out W gW).mono ?_
        rintro e w1 ⟨rfl, bn⟩
        obtain ⟨h0, h1, h2, h3, h4, h5, h6, h7, h8, h9, h10, h11, h12, h13, gW⟩ := HI.out
        exact hK'.out _ _ ⟨.mk .., rfl, rfl, h0, (fun _ => rfl), h2, h3, h4, h5, h6, h7, h8, h9, h10, h11, h12, h13, (gW.trans (bn.mono gW.size))⟩
      · obtain ⟨rfl, e1⟩ : b2 = false ∧ b1 = true := by revert hp; cases b2 <;> cases b1 <;> simp
        clear hp
        obtain rfl := (HI.out.2.1) e1
        refine inv_op (o := ⟨some 9, _, _, _, _, _⟩) rfl (fun K' hK' => ?_)
        go_simp
        exact hK'.out _ _ ⟨.mk .., rfl, rfl, Nxt (Nxt (Upd (fun _ => rfl))) HI.out⟩
      · obtain ⟨rfl, e2⟩ : b3 = false ∧ b2 = true := by revert hp; cases b3 <;> cases b2 <;> simp
        clear hp
        obtain rfl := (HI.out.2.2.1) e2
        refine inv_op (o := ⟨some 10, _, _, _, _, _⟩) rfl (fun K' hK' => ?_)
        go_simp
        exact hK'.out _ _ ⟨.mk .., rfl, rfl, Nxt (Nxt (Nxt (Upd (fun _ => rfl)))) HI.out⟩
      · obtain ⟨rfl, e3, e2⟩ : b4 = false ∧ b3 = true ∧ b2 = true := by revert hp; cases b4 <;> cases b3 <;> cases b2 <;> simp
        clear hp
        obtain rfl := (HI.out.2.2.2.1) e3
        obtain rfl := (HI.out.2.2.1) e2
        refine inv_op (o := ⟨some 11, _, _, _, _, _⟩) rfl (fun K' hK' => ?_)
        go_simp
        refine (HS.out W).mono ?_
        rintro e w1 ⟨rfl, rfl⟩
        exact hK'.out _ _ ⟨.mk .., rfl, rfl, Nx4 (Upd (fun _ => rfl)) HI.out⟩
      · obtain ⟨rfl, e2, e4⟩ : b5 = false ∧ b2 = true ∧ b4 = true := by revert hp; cases b5 <;> cases b2 <;> cases b4 <;> simp
        clear hp
        obtain rfl := (HI.out.2.2.1) e2
        obtain rfl := (HI.out.2.2.2.2.1) e4
        refine inv_op (o := ⟨some 12, _, _, _, _, _⟩) rfl (fun K' hK' => ?_)
        go_simp
        exact hK'.out _ _ ⟨.mk .., rfl, rfl, Nxt (Nx4 (Upd (fun _ => rfl))) HI.out⟩
      · obtain ⟨rfl, e5⟩ : b6 = false ∧ b5 = true := by revert hp; cases b6 <;> cases b5 <;> simp
        clear hp
        obtain rfl := (HI.out.2.2.2.2.2.1) e5
        refine inv_op (o := ⟨some 13, _, _, _, _, _⟩) rfl (fun K' hK' => ?_)
        go_simp
        exact hK'.out _ _ ⟨.mk .., rfl, rfl, Nxt (Nxt (Nx4 (Upd (fun _ => rfl)))) HI.out⟩
      · obtain ⟨rfl, e6⟩ : b7 = false ∧ b6 = true := by revert hp; cases b7 <;> cases b6 <;> simp
        clear hp
        obtain rfl := (HI.out.2.2.2.2.2.2.1) e6
        refine inv_op (o := ⟨some 14, _, _, _, _, _⟩) rfl (fun K' hK' => ?_)
        have gW := HI.out.2.2.2.2.2.2.2.2.2.2.2.2.2.2
        obtain ⟨hc1, hc2⟩ := HM.out W gW
        go_simp
        exact hK'.out _ _ ⟨.mk .., rfl, rfl, Nxt (Nxt (Nxt (Nx4 (Upd (fun _ => rfl))))) HI.out⟩
      · obtain ⟨rfl, e6⟩ : b8 = false ∧ b6 = true := by revert hp; cases b8 <;> cases b6 <;> simp
        clear hp
        obtain rfl := (HI.out.2.2.2.2.2.2.1) e6
        refine inv_op (o := ⟨some 15, _, _, _, _, _⟩) rfl (fun K' hK' => ?_)
        go_simp
        exact hK'.out _ _ ⟨.mk .., rfl, rfl, Nx4 (Nx4 (Upd (fun _ => rfl))) HI.out⟩
      · obtain ⟨rfl, e6⟩ : b9 = false ∧ b6 = true := by revert hp; cases b9 <;> cases b6 <;> simp
        clear hp
        obtain rfl := (HI.out.2.2.2.2.2.2.1) e6
        refine inv_op (o := ⟨some 16, _, _, _, _, _⟩) rfl (fun K' hK' => ?_)
        go_simp
        exact hK'.out _ _ ⟨.mk .., rfl, rfl, Nxt (Nx4 (Nx4 (Upd (fun _ => rfl)))) HI.out⟩
      · obtain ⟨rfl, e9, e6⟩ : b10 = false ∧ b9 = true ∧ b6 = true := by revert hp; cases b10 <;> cases b9 <;> cases b6 <;> simp
        clear hp
        obtain rfl := (HI.out.2.2.2.2.2.2.2.2.2.1) e9
        obtain rfl := (HI.out.2.2.2.2.2.2.1) e6
        refine inv_op (o := ⟨some 17, _, _, _, _, _⟩) rfl (fun K' hK' => ?_)
        go_simp
        refine (HZ.out W).mono ?_
        rintro e w1 ⟨rfl, rfl⟩
        exact hK'.out _ _ ⟨.mk .., rfl, rfl, Nxt (Nxt (Nx4 (Nx4 (Upd (fun _ => rfl))))) HI.out⟩
      · have hn11 : b11 = false := by revert hp; cases b11 <;> simp
        have e7 : b7 = true := by revert hp; cases b7 <;> simp
        have e8 : b8 = true := by revert hp; cases b8 <;> simp
        have e10 : b10 = true := by revert hp; cases b10 <;> simp
        have e6 : b6 = true := by revert hp; cases b6 <;> simp
        clear hp
        obtain rfl := (HI.out.2.2.2.2.2.2.2.1) e7
        obtain rfl := (HI.out.2.2.2.2.2.2.2.2.1) e8
        obtain rfl := (HI.out.2.2.2.2.2.2.2.2.2.2.1) e10
        obtain rfl := (HI.out.2.2.2.2.2.2.1) e6
        subst hn11
        refine inv_op (o := ⟨some 18, _, _, _, _, _⟩) rfl (fun K' hK' => ?_)
        have gW := HI.out.2.2.2.2.2.2.2.2.2.2.2.2.2.2
        go_simp
        refine (HIN.out W gW).mono ?_
        rintro e w1 ⟨rfl, bn⟩
        obtain ⟨h0, h1, h2, h3, h4, h5, h6, h7, h8, h9, h10, h11, h12, h13, gW⟩ := HI.out
        exact hK'.out _ _ ⟨.mk .., rfl, rfl, h0, h1, h2, h3, h4, h5, h6, h7, h8, h9, h10, (fun _ => rfl), h12, h13, (gW.trans (bn.mono gW.size))⟩
      · obtain ⟨rfl, e6, e11⟩ : b12 = false ∧ b6 = true ∧ b11 = true := by revert hp; cases b12 <;> cases b6 <;> cases b11 <;> simp
        clear hp
        obtain rfl := (HI.out.2.2.2.2.2.2.1) e6
        obtain rfl := (HI.out.2.2.2.2.2.2.2.2.2.2.2.1) e11
        refine inv_op (o := ⟨some 19, _, _, _, _, _⟩) rfl (fun K' hK' => ?_)
        go_simp
        exact hK'.out _ _ ⟨.mk .., rfl, rfl, Nx4 (Nx4 (Nx4 (Upd (fun _ => rfl)))) HI.out⟩
      · obtain ⟨rfl, e12⟩ : b13 = false ∧ b12 = true := by revert hp; cases b13 <;> cases b12 <;> simp
        clear hp
        obtain rfl := (HI.out.2.2.2.2.2.2.2.2.2.2.2.2.1) e12
        refine inv_op (o := ⟨some 6, _, _, _, _, _⟩) rfl (fun K' hK' => ?_)
        go_simp
        exact hK'.out _ _ ⟨.mk .., rfl, rfl, Nxt (Nx4 (Nx4 (Nx4 (Upd (fun _ => rfl))))) HI.out⟩
     case hdone =>
      rintro ⟨b0, b1, b2, b3, b4, b5, b6, b7, b8, b9, b10, b11, b12, b13, s7, s8, s9, s10, s11, s12, s13, s14, s15, s16, s17, s18, s19, s6⟩ W hI hall
      dsimp only at hI hall ⊢
      have HI := Lib.hid hI
      clear hI
      obtain rfl : b0 = true := hall 0 (by decide)
      obtain rfl : b1 = true := hall 1 (by decide)
      obtain rfl : b2 = true := hall 2 (by decide)
      obtain rfl : b3 = true := hall 3 (by decide)
      obtain rfl : b4 = true := hall 4 (by decide)
      obtain rfl : b5 = true := hall 5 (by decide)
      obtain rfl : b6 = true := hall 6 (by decide)
      obtain rfl : b7 = true := hall 7 (by decide)
      obtain rfl : b8 = true := hall 8 (by decide)
      obtain rfl : b9 = true := hall 9 (by decide)
      obtain rfl : b10 = true := hall 10 (by decide)
      obtain rfl : b11 = true := hall 11 (by decide)
      obtain rfl : b12 = true := hall 12 (by decide)
      obtain rfl : b13 = true := hall 13 (by decide)
      obtain rfl := (HI.out.2.2.2.2.2.2.2.2.2.2.2.2.2.1) rfl
      have gW := HI.out.2.2.2.2.2.2.2.2.2.2.2.2.2.2
      clear HI hall
      have GW := Lib.hid (HB.out.trans (gW.mono HB.out.size))
      clear gW
      go_wp2
      go_ret
      exact ⟨rfl, GW.out⟩
 · obtain rfl : r = false := by rw [← hr, okR, decide_eq_false h1, Bool.false_and]
   have hd := decide_eq_false h1
   have HC := Lib.hid (show ∀ W, Below (w.alloc (.cells #[.slice a n c] 26)).heap.size (w.alloc (.cells #[.slice a n c] 26)) W → Calls Tryz.prog 69 #[.agg #[.slice a n c]] W fun e w' => e = .returned (.bool false) ∧ Below W.heap.size W w' from fun W _ => refCheck_any a n c HN.out false (by rw [hd]) W)
   clear hr h1 hn hd
   go_enter Tryz.func33, Tryz.ntmps33
   go_wp2_with fail
   refine wp_region_rec (X := RefRngCheck1) (by kernel_rfl) (by kernel_rfl) (fun x => #[x.b0, x.b1, x.b2, x.b3, x.b4, x.b5, x.b6, x.b7, x.b8, x.b9, x.b10, x.b11, x.b12, x.b13]) (fun x => { tmps := #[.agg #[.slice a n c], .int .i64 b, .int .i64 z, .pointer (some ⟨w.heap.size, 0, none⟩), undef, undef, x.s6, x.s7, x.s8, x.s9, x.s10, x.s11, x.s12, x.s13, x.s14, x.s15, x.s16, x.s17, x.s18, x.s19], defers := [] }) (fun x W => (x.b0 = true → x.s7 = .agg #[.slice a n c]) ∧ (x.b1 = true → x.s8 = .bool false) ∧ (x.b2 = true → x.s9 = .bool false) ∧ (x.b3 = true → x.s10 = undef) ∧ (x.b4 = true → x.s11 = undef) ∧ (x.b5 = true → x.s12 = .bool false) ∧ (x.b6 = true → x.s13 = .bool false) ∧ (x.b7 = true → x.s14 = undef) ∧ (x.b8 = true → x.s15 = undef) ∧ (x.b9 = true → x.s16 = undef) ∧ (x.b10 = true → x.s17 = undef) ∧ (x.b11 = true → x.s18 = undef) ∧ (x.b12 = true → x.s19 = .bool false) ∧ (x.b13 = true → x.s6 = .bool false) ∧ (Below (w.alloc (.cells #[.slice a n c] 26)).heap.size (w.alloc (.cells #[.slice a n c] 26)) W)) ⟨false, false, false, false, false, false, false, false, false, false, false, false, false, false, undef, undef, undef, undef, undef, undef, undef, undef, undef, undef, undef, undef, undef, .bool false⟩ rfl rfl ⟨(fun h => by cases h), (fun h => by cases h), (fun h => by cases h), (fun h => by cases h), (fun h => by cases h), (fun h => by cases h), (fun h => by cases h), (fun h => by cases h), (fun h => by cases h), (fun h => by cases h), (fun h => by cases h), (fun h => by cases h), (fun h => by cases h), (fun h => by cases h), (Below.refl _ _).drew⟩ (fun _ => rfl) ?hstep ?hdone
   case hstep =>
    rintro ⟨b0, b1, b2, b3, b4, b5, b6, b7, b8, b9, b10, b11, b12, b13, s7, s8, s9, s10, s11, s12, s13, s14, s15, s16, s17, s18, s19, s6⟩ W hI i hi
    dsimp only at hI hi ⊢
    have HI := Lib.hid hI
    clear hI
    rw [Region.ready, List.mem_filter, List.mem_range] at hi
    obtain ⟨hlt, hp⟩ := hi
    have hi7 : i = 0 ∨ i = 1 ∨ i = 2 ∨ i = 3 ∨ i = 4 ∨ i = 5 ∨ i = 6 ∨ i = 7 ∨ i = 8 ∨ i = 9 ∨ i = 10 ∨ i = 11 ∨ i = 12 ∨ i = 13 := by simp at hlt; omega
    clear hlt
    rcases hi7 with rfl | rfl | rfl | rfl | rfl | rfl | rfl | rfl | rfl | rfl | rfl | rfl | rfl | rfl
    all_goals simp [Region.binds] at hp
    · obtain rfl : b0 = false := by revert hp; cases b0 <;> simp
      clear hp
      refine inv_op (o := ⟨some 7, _, _, _, _, _⟩) rfl (fun K' hK' => ?_)
      have gW := HI.out.2.2.2.2.2.2.2.2.2.2.2.2.2.2
      obtain ⟨hc1, hc2⟩ := HM.out W gW
      go_simp
      exact hK'.out _ _ ⟨.mk .., rfl, rfl, (Upd (fun _ => rfl)) HI.out⟩
    · obtain ⟨rfl, e0⟩ : b1 = false ∧ b0 = true := by revert hp; cases b1 <;> cases b0 <;> simp
      clear hp
      obtain rfl := (HI.out.1) e0
      refine inv_op (o := ⟨some 8, _, _, _, _, _⟩) rfl (fun K' hK' => ?_)
      have gW := HI.out.2.2.2.2.2.2.2.2.2.2.2.2.2.2
      go_simp
      refine (HC.out W gW).mono ?_
      rintro e w1 ⟨rfl, bn⟩
      obtain ⟨h0, h1, h2, h3, h4, h5, h6, h7, h8, h9, h10, h11, h12, h13, gW⟩ := HI.out
      exact hK'.out _ _ ⟨.mk .., rfl, rfl, h0, (fun _ => rfl), h2, h3, h4, h5, h6, h7, h8, h9, h10, h11, h12, h13, (gW.trans (bn.mono gW.size))⟩
    · obtain ⟨rfl, e1⟩ : b2 = false ∧ b1 = true := by revert hp; cases b2 <;> cases b1 <;> simp
      clear hp
      obtain rfl := (HI.out.2.1) e1
      refine inv_op (o := ⟨some 9, _, _, _, _, _⟩) rfl (fun K' hK' => ?_)
      go_simp
      exact hK'.out _ _ ⟨.mk .., rfl, rfl, Nxt (Nxt (Upd (fun _ => rfl))) HI.out⟩
    · obtain ⟨rfl, e2⟩ : b3 = false ∧ b2 = true := by revert hp; cases b3 <;> cases b2 <;> simp
      clear hp
      obtain rfl := (HI.out.2.2.1) e2
      refine inv_op (o := ⟨some 10, _, _, _, _, _⟩) rfl (fun K' hK' => ?_)
      go_simp
      exact hK'.out _ _ ⟨.mk .., rfl, rfl, Nxt (Nxt (Nxt (Upd (fun _ => rfl)))) HI.out⟩
    · obtain ⟨rfl, e3, e2⟩ : b4 = false ∧ b3 = true ∧ b2 = true := by revert hp; cases b4 <;> cases b3 <;> cases b2 <;> simp
      clear hp
      obtain rfl := (HI.out.2.2.2.1) e3
      obtain rfl := (HI.out.2.2.1) e2
      refine inv_op (o := ⟨some 11, _, _, _, _, _⟩) rfl (fun K' hK' => ?_)
      go_simp
      exact hK'.out _ _ ⟨.mk .., rfl, rfl, Nx4 (Upd (fun _ => rfl)) HI.out⟩
    · obtain ⟨rfl, e2, e4⟩ : b5 = false ∧ b2 = true ∧ b4 = true := by revert hp; cases b5 <;> cases b2 <;> cases b4 <;> simp
      clear hp
      obtain rfl := (HI.out.2.2.1) e2
      obtain rfl := (HI.out.2.2.2.2.1) e4
      refine inv_op (o := ⟨some 12, _, _, _, _, _⟩) rfl (fun K' hK' => ?_)
      go_simp
      exact hK'.out _ _ ⟨.mk .., rfl, rfl, Nxt (Nx4 (Upd (fun _ => rfl))) HI.out⟩
    · obtain ⟨rfl, e5⟩ : b6 = false ∧ b5 = true := by revert hp; cases b6 <;> cases b5 <;> simp
      clear hp
      obtain rfl := (HI.out.2.2.2.2.2.1) e5
      refine inv_op (o := ⟨some 13, _, _, _, _, _⟩) rfl (fun K' hK' => ?_)
      go_simp
      exact hK'.out _ _ ⟨.mk .., rfl, rfl, Nxt (Nxt (Nx4 (Upd (fun _ => rfl)))) HI.out⟩
    · obtain ⟨rfl, e6⟩ : b7 = false ∧ b6 = true := by revert hp; cases b7 <;> cases b6 <;> simp
      clear hp
      obtain rfl := (HI.out.2.2.2.2.2.2.1) e6
      refine inv_op (o := ⟨some 14, _, _, _, _, _⟩) rfl (fun K' hK' => ?_)
      go_simp
      exact hK'.out _ _ ⟨.mk .., rfl, rfl, Nxt (Nxt (Nxt (Nx4 (Upd (fun _ => rfl))))) HI.out⟩
    · obtain ⟨rfl, e6⟩ : b8 = false ∧ b6 = true := by revert hp; cases b8 <;> cases b6 <;> simp
      clear hp
      obtain rfl := (HI.out.2.2.2.2.2.2.1) e6
      refine inv_op (o := ⟨some 15, _, _, _, _, _⟩) rfl (fun K' hK' => ?_)
      go_simp
      exact hK'.out _ _ ⟨.mk .., rfl, rfl, Nx4 (Nx4 (Upd (fun _ => rfl))) HI.out⟩
    · obtain ⟨rfl, e6⟩ : b9 = false ∧ b6 = true := by revert hp; cases b9 <;> cases b6 <;> simp
      clear hp
      obtain rfl := (HI.out.2.2.2.2.2.2.1) e6
      refine inv_op (o := ⟨some 16, _, _, _, _, _⟩) rfl (fun K' hK' => ?_)
      go_simp
      exact hK'.out _ _ ⟨.mk .., rfl, rfl, Nxt (Nx4 (Nx4 (Upd (fun _ => rfl)))) HI.out⟩
    · obtain ⟨rfl, e9, e6⟩ : b10 = false ∧ b9 = true ∧ b6 = true := by revert hp; cases b10 <;> cases b9 <;> cases b6 <;> simp
      clear hp
      obtain rfl := (HI.out.2.2.2.2.2.2.2.2.2.1) e9
      obtain rfl := (HI.out.2.2.2.2.2.2.1) e6
      refine inv_op (o := ⟨some 17, _, _, _, _, _⟩) rfl (fun K' hK' => ?_)
      go_simp
      exact hK'.out _ _ ⟨.mk .., rfl, rfl, Nxt (Nxt (Nx4 (Nx4 (Upd (fun _ => rfl))))) HI.out⟩
    · have hn11 : b11 = false := by revert hp; cases b11 <;> simp
      have e7 : b7 = true := by revert hp; cases b7 <;> simp
      have e8 : b8 = true := by revert hp; cases b8 <;> simp
      have e10 : b10 = true := by revert hp; cases b10 <;> simp
      have e6 : b6 = true := by revert hp; cases b6 <;> simp
      clear hp
      obtain rfl := (HI.out.2.2.2.2.2.2.2.1) e7
      obtain rfl := (HI.out.2.2.2.2.2.2.2.2.1) e8
      obtain rfl := (HI.out.2.2.2.2.2.2.2.2.2.2.1) e10
      obtain rfl := (HI.out.2.2.2.2.2.2.1) e6
      subst hn11
      refine inv_op (o := ⟨some 18, _, _, _, _, _⟩) rfl (fun K' hK' => ?_)
      go_simp
      exact hK'.out _ _ ⟨.mk .., rfl, rfl, Nxt (Nxt (Nxt (Nx4 (Nx4 (Upd (fun _ => rfl)))))) HI.out⟩
    · obtain ⟨rfl, e6, e11⟩ : b12 = false ∧ b6 = true ∧ b11 = true := by revert hp; cases b12 <;> cases b6 <;> cases b11 <;> simp
      clear hp
      obtain rfl := (HI.out.2.2.2.2.2.2.1) e6
      obtain rfl := (HI.out.2.2.2.2.2.2.2.2.2.2.2.1) e11
      refine inv_op (o := ⟨some 19, _, _, _, _, _⟩) rfl (fun K' hK' => ?_)
      go_simp
      exact hK'.out _ _ ⟨.mk .., rfl, rfl, Nx4 (Nx4 (Nx4 (Upd (fun _ => rfl)))) HI.out⟩
    · obtain ⟨rfl, e12⟩ : b13 = false ∧ b12 = true := by revert hp; cases b13 <;> cases b12 <;> simp
      clear hp
      obtain rfl := (HI.out.2.2.2.2.2.2.2.2.2.2.2.2.1) e12
      refine inv_op (o := ⟨some 6, _, _, _, _, _⟩) rfl (fun K' hK' => ?_)
      go_simp
      exact hK'.out _ _ ⟨.mk .., rfl, rfl, Nxt (Nx4 (Nx4 (Nx4 (Upd (fun _ => rfl))))) HI.out⟩
   case hdone =>
    rintro ⟨b0, b1, b2, b3, b4, b5, b6, b7, b8, b9, b10, b11, b12, b13, s7, s8, s9, s10, s11, s12, s13, s14, s15, s16, s17, s18, s19, s6⟩ W hI hall
    dsimp only at hI hall ⊢
    have HI := Lib.hid hI
    clear hI
    obtain rfl : b0 = true := hall 0 (by decide)
    obtain rfl : b1 = true := hall 1 (by decide)
    obtain rfl : b2 = true := hall 2 (by decide)
    obtain rfl : b3 = true := hall 3 (by decide)
    obtain rfl : b4 = true := hall 4 (by decide)
    obtain rfl : b5 = true := hall 5 (by decide)
    obtain rfl : b6 = true := hall 6 (by decide)
    obtain rfl : b7 = true := hall 7 (by decide)
    obtain rfl : b8 = true := hall 8 (by decide)
    obtain rfl : b9 = true := hall 9 (by decide)
    obtain rfl : b10 = true := hall 10 (by decide)
    obtain rfl : b11 = true := hall 11 (by decide)
    obtain rfl : b12 = true := hall 12 (by decide)
    obtain rfl : b13 = true := hall 13 (by decide)
    obtain rfl := (HI.out.2.2.2.2.2.2.2.2.2.2.2.2.2.1) rfl
    have gW := HI.out.2.2.2.2.2.2.2.2.2.2.2.2.2.2
    clear HI hall
    have GW := Lib.hid (HB.out.trans (gW.mono HB.out.size))
    clear gW
    go_wp2
    go_ret
    exact ⟨rfl, GW.out⟩
end Go.Proofs.YtnmekbbnglkmcaaGreat
namespace Go.Proofs.YtnmekbbnglkmcaaGreat
open Go.RowKit Go.Lib
theorem ringFault_any (a : Option Addr) (n c : Nat) (hn : n ≤ maxLen) (b z : Int) (F : Int) (hF : ringF n b z = F) (w : World) :
 Calls Tryz.prog 59 #[.agg #[.slice a n c], .int .i64 b, .int .i64 z] w fun e w' => e = .returned (.int .i64 F) ∧ Below w.heap.size w w' := by
 have HB0 := Lib.hid ((Below.refl w.heap.size w).alloc (Nat.le_refl _) (.cells #[.slice a n c] 26))
 have HN := Lib.hid hn
 subst hF
 unfold ringF
 cases h : okR n b z
 all_goals
  have H := Lib.hid h
  clear h hn
  go_enter Tryz.func59, Tryz.ntmps59
  go_wp2_with fail
  refine (ringCheck_any _ _ _ HN.out _ _ _ H.out _).mono ?_
  rintro e w1 ⟨rfl, hb⟩
  have HB1 := Lib.hid (HB0.out.trans (hb.mono (by simp)))
  clear hb
  go_wp2
  go_ret
  exact ⟨rfl, HB1.out⟩
theorem descFault_any (a : Option Addr) (n c : Nat) (hn : n ≤ maxLen) (b z i : Int) (F : Int) (hF : descF n b z i = F) (w : World) :
 Calls Tryz.prog 91 #[.agg #[.slice a n c], .int .i64 b, .int .i64 z, .int .i64 i] w fun e w' => e = .returned (.int .i64 F) ∧ Below w.heap.size w w' := by
 have HB0 := Lib.hid ((Below.refl w.heap.size w).alloc (Nat.le_refl _) (.cells #[.slice a n c] 26))
 have HN := Lib.hid hn
 subst hF
 unfold descF
 by_cases h : okR n b z = true
 · rw [if_pos h]
   have HF := Lib.hid (show ringF n b z = 0 by rw [ringF, if_pos h])
   have H : (i < 0 ∧ (if 0 ≤ i ∧ i < z then (0 : Int) else 2) = 2) ∨ (0 ≤ i ∧ z ≤ i ∧ (if 0 ≤ i ∧ i < z then (0 : Int) else 2) = 2) ∨ (0 ≤ i ∧ i < z ∧ (if 0 ≤ i ∧ i < z then (0 : Int) else 2) = 0) := by
    by_cases h1 : 0 ≤ i ∧ i < z
    · exact .inr (.inr ⟨h1.1, h1.2, if_pos h1⟩)
    · by_cases h2 : i < 0
      · exact .inl ⟨h2, if_neg h1⟩
      · exact .inr (.inl ⟨by omega, by omega, if_neg h1⟩)
   clear h hn
   rcases H with ⟨h1, hq⟩ | ⟨h1, h2, hq⟩ | ⟨h1, h2, hq⟩
   all_goals
    rw [hq]
    clear hq
    go_enter Tryz.func91, Tryz.ntmps91
    go_wp2_with fail
    refine (ringFault_any _ _ _ HN.out _ _ _ HF.out _).mono ?_
    rintro e w1 ⟨rfl, hb⟩
    have HB1 := Lib.hid (HB0.out.trans (hb.mono (by simp)))
    clear hb
    go_wp2
    go_ret
    exact ⟨rfl, HB1.out⟩
 · rw [if_neg h]
   have HF := Lib.hid (show ringF n b z = 70 by rw [ringF, if_neg h])
   clear h hn
   go_enter Tryz.func91, Tryz.ntmps91
   go_wp2_with fail
   refine (ringFault_any _ _ _ HN.out _ _ _ HF.out _).mono ?_
   rintro e w1 ⟨rfl, hb⟩
   have HB1 := Lib.hid (HB0.out.trans (hb.mono (by simp)))
   clear hb
   go_wp2
   go_ret
   exact ⟨rfl, HB1.out⟩
set_option maxHeartbeats 1000000 in
theorem ringSame_any (v : Value) (l : List UInt8) (w : World) (hv : IsArg w v l) (hl : l.length ≤ 140737488355328) :
 Calls Tryz.prog 60 #[.agg #[v]] w fun e w' => ∃ r, e = .returned (.agg #[r]) ∧ w'.ownsRow w.heap.size 5 1 r l.length (byteCells l) ∧ Below w.heap.size w w' := by
 have HV := Lib.hid hv
 have HB := Lib.hid (((Below.refl w.heap.size w).alloc (Nat.le_refl _) (.cells #[v] 26)).alloc (by simp) (.cells #[.slice none 0 0] 26))
 obtain ⟨a, c, rfl, _⟩ := hv.shape
 clear hv
 go_enter Tryz.func60, Tryz.ntmps60
 go_wp2_with fail
 refine (clone_any _ _ _ (HV.out.below HB.out) hl).mono ?_
 rintro e w1 ⟨r, rfl, hr, hb⟩
 have HB1 := Lib.hid (HB.out.trans (hb.mono (by simp; omega)))
 have HR := Lib.hid hr
 obtain ⟨_, hold, hfz, hlt⟩ := second_box hb
 obtain ⟨ra, rc, rfl, _⟩ := (isArg_of_owns hr).shape
 clear hr hb
 go_wp2
 refine bodyPost_ret (v := .agg #[.slice ra l.length rc]) (by simp [results, Tryz.results60, go_sem, hold]) rfl ⟨_, rfl, ?_, ?_⟩
 · exact ownsRow_base (ownsRow_set HR.out _ _ (by simp)) (by simp; omega)
 · exact HB1.out.setCell (by simp) _
theorem numFault_in {L p k : Nat} (hL : L ≤ 8192) (h : p + k ≤ L) (h1 : 1 ≤ k) (h8 : k ≤ 8) : numFaultOf L (p : Nat) (k : Nat) = 0 ∧ sizeFaultOf L (k : Nat) = 0 ∧ faultOf L (p : Nat) (k : Nat) = 0 := by
 have e1 : sizeFaultOf L (k : Nat) = 0 := by unfold sizeFaultOf; rw [if_pos hL, if_pos (by omega)]
 have e2 : faultOf L (p : Nat) (k : Nat) = 0 := fault_of hL (by omega) (by omega) (by omega) (by omega)
 exact ⟨by rw [numFaultOf, if_pos e1, e2], e1, e2⟩
theorem numOf_in {l : List UInt8} {p k : Nat} (hL : l.length ≤ 8192) (h : p + k ≤ l.length) (h1 : 1 ≤ k) (h8 : k ≤ 8) : numOf l (p : Nat) (k : Nat) = numAt l p k := by
 obtain ⟨_, e1, e2⟩ := numFault_in hL h h1 h8
 rw [numOf, if_pos e1, getOf_some e2, Int.toNat_natCast, Int.toNat_natCast, List.take_take, Nat.min_eq_right h8, numAt]
theorem putNumOf_in {l : List UInt8} {p k : Nat} (x : Nat) (hL : l.length ≤ 8192) (h : p + k ≤ l.length) (h1 : 1 ≤ k) (h8 : k ≤ 8) : putNumOf l (p : Nat) (k : Nat) x = putAt l p k x := by
 obtain ⟨_, e1, e2⟩ := numFault_in hL h h1 h8
 rw [putNumOf, if_pos e1, Int.toNat_natCast, putOf_some (by rw [leB_length]; exact e2), leB_length, Int.toNat_natCast, putAt]
theorem num_in {v : Value} {l : List UInt8} {p k : Nat} (hL : l.length ≤ 8192) (h : p + k ≤ l.length) (h1 : 1 ≤ k) (h8 : k ≤ 8) (w : World) (hv : IsArg w v l) :
 Calls Tryz.prog 90 #[.agg #[v], .int .i64 (p : Nat), .int .i64 (k : Nat)] w fun e w' => e = .returned (.tuple #[.int .u64 (numAt l p k : Nat), .int .i64 0]) ∧ Below w.heap.size w w' :=
 (num_any v l w hv p k (by unfold maxLen; omega)).mono fun _ _ ⟨e1, e2⟩ => by
  rw [numOf_in hL h h1 h8, (numFault_in hL h h1 h8).1] at e1
  exact ⟨e1, e2⟩
theorem putNum_at {v : Value} {l : List UInt8} {p k : Nat} (x : Nat) (hL : l.length ≤ 8192) (h : p + k ≤ l.length) (h1 : 1 ≤ k) (h8 : k ≤ 8) (w : World) (hv : IsArg w v l) :
 Calls Tryz.prog 107 #[.agg #[v], .int .i64 (p : Nat), .int .i64 (k : Nat), .int .u64 (x : Nat)] w fun e w' => ∃ r, e = .returned (.tuple #[.agg #[r], .int .i64 0]) ∧ Given w' w.heap.size v l r (putAt l p k x) ∧ Below w.heap.size w w' :=
 (putNum_any v l w hv p k x (by omega)).mono fun _ _ ⟨r, e1, e2, e3⟩ => by
  rw [(numFault_in hL h h1 h8).1] at e1
  rw [putNumOf_in x hL h h1 h8] at e2
  exact ⟨r, e1, e2, e3⟩
theorem refPutNum_at {v : Value} {l : List UInt8} {p k : Nat} (x : Nat) (hx : x < 18446744073709551616) (hL : l.length ≤ 8192) (h : p + k ≤ l.length) (h1 : 1 ≤ k) (h8 : k ≤ 8) (w : World) (hv : IsArg w v l) :
 Calls Tryz.prog 73 #[.agg #[v], .int .i64 (p : Nat), .int .i64 (k : Nat), .int .u64 (x : Nat)] w fun e w' => ∃ r, e = .returned (.tuple #[.agg #[r], .int .i64 0]) ∧ Given w' w.heap.size v l r (putAt l p k x) ∧ Below w.heap.size w w' :=
 (refPutNum_any v l w hv p k x hx (by omega)).mono fun _ _ ⟨r, e1, e2, e3⟩ => by
  rw [(numFault_in hL h h1 h8).1] at e1
  rw [putNumOf_in x hL h h1 h8] at e2
  exact ⟨r, e1, e2, e3⟩
def GetAt (w : World) (a b : Nat) (v : Value) (p : Nat) : Prop := w.heap[a]? = some (.cells #[v] 26 (0, 0)) ∧ w.heap[b]? = some (.cells #[.int .i64 (p : Nat)] 3 (0, 0))
theorem GetAt.below {w w' : World} {a b : Nat} {v : Value} {p : Nat} (h : GetAt w a b v p) (hb : Below w.heap.size w w') : GetAt w' a b v p := ⟨row_keep h.1 hb, row_keep h.2 hb⟩
theorem tneMI : (26 : Nat) ≠ 3 := by decide
theorem tneMU : (26 : Nat) ≠ 5 := by decide
theorem tneIU : (3 : Nat) ≠ 5 := by decide
theorem tnePM : (137 : Nat) ≠ 26 := by decide
theorem tnePI : (137 : Nat) ≠ 3 := by decide
theorem blocks_ne {X : World} {r g : Nat} {cs ds : Array Value} {s t : TypeId} {fr fs : Nat × Nat} (h : X.heap[g]? = some (.cells cs s fr)) (hr : X.heap[r]? = some (.cells ds t fs)) (hne : (t : Nat) ≠ s) : r ≠ g := by
 intro he
 subst he
 rw [h] at hr
 injection hr with hr
 injection hr with _ hr
 exact hne hr.symm
def Save1 (w w' : World) (b : Nat) : Prop := ∃ y, Below w.heap.size (w.setCell ⟨b, 0, none⟩ y) w'
theorem set_size (w : World) (a : Addr) (y : Value) : (w.setCell a y).heap.size = w.heap.size := by simp [World.setCell]
theorem Save1.below {B b : Nat} {w0 w w' : World} (h : Save1 w w' b) (h0 : Below B w0 w) (hb : B ≤ b) (hs : B ≤ w.heap.size) : Below B w0 w' := by
 obtain ⟨y, hy⟩ := h
 exact (h0.setCell hb y).trans (hy.mono hs)
theorem Save1.row {b g : Nat} {w w' : World} {o : Obj} (h : Save1 w w' b) (hg : w.heap[g]? = some o) (hne : g ≠ b) : w'.heap[g]? = some o := by
 obtain ⟨y, hy⟩ := h
 rw [hy.block g (Array.getElem?_eq_some_iff.1 hg).1]
 exact one_other hg _ _ (by simpa using fun e => hne e.symm)
theorem Save1.size {b : Nat} {w w' : World} (h : Save1 w w' b) : w.heap.size ≤ w'.heap.size := by
 obtain ⟨y, hy⟩ := h
 have := hy.size
 rwa [set_size] at this
theorem below_set {w w' : World} (h : Below w.heap.size w w') (b : Nat) (y : Value) : Below w.heap.size (w.setCell ⟨b, 0, none⟩ y) (w'.setCell ⟨b, 0, none⟩ y) := by
 refine ⟨h.os, h.tape, h.output, by rw [set_size, set_size]; exact h.size, fun k hk => ?_⟩
 have e := h.block k hk
 simp only [World.setCell, Array.getElem?_modify]
 split
 · rename_i hbk
   subst hbk
   simp only [e]
 · exact e
theorem getter_any (v : Value) (l : List UInt8) (p : Nat) (w : World) (hv : IsArg w v l) : Calls Tryz.prog 65 #[.agg #[v], .int .i64 (p : Nat)] w fun e w' => ∃ a b, e = .returned (.func (.func 89) #[] #[.pointer (some ⟨a, 0, none⟩), .pointer (some ⟨b, 0, none⟩)]) ∧ GetAt w' a b v p ∧ w.heap.size ≤ a ∧ w.heap.size ≤ b ∧ Below w.heap.size w w' := by
 obtain ⟨h1, h2, h3⟩ := two_new w v (.int .i64 (p : Nat)) 26 3
 have H1 := Lib.hid h1
 have H2 := Lib.hid h2
 have H3 := Lib.hid h3
 obtain ⟨a, c, rfl, _⟩ := hv.shape
 clear h1 h2 h3 hv
 go_enter Tryz.func65, Tryz.ntmps65
 go_wp2
 go_ret
 exact ⟨_, _, rfl, ⟨H1.out, by simpa using H2.out⟩, Nat.le_refl _, by simp, H3.out⟩
set_option maxHeartbeats 1000000 in
theorem get_num (a b : Nat) (v : Value) (l : List UInt8) (p k q : Nat) (hq : p + k = q) (hL : l.length ≤ 8192) (h : p + k ≤ l.length) (h1 : 1 ≤ k) (h8 : k ≤ 8) (w : World) (hv : IsArg w v l) (hg : GetAt w a b v p) :
 Calls Tryz.prog 89 #[.int .i64 (k : Nat), .pointer (some ⟨a, 0, none⟩), .pointer (some ⟨b, 0, none⟩)] w fun e w' => e = .returned (.int .u64 (numAt l p k : Nat)) ∧ GetAt w' a b v q ∧ Save1 w w' b := by
 have HN := Lib.hid (num_in (v := v) hL h h1 h8 w hv)
 obtain ⟨n, hn⟩ : ∃ n, n = numAt l p k := ⟨_, rfl⟩
 rw [← hn] at HN
 rw [← hn]
 have hpq : (p : Int) + (k : Nat) = (q : Nat) := by omega
 have hq1 : q ≤ 8192 := by omega
 obtain ⟨va, vc, rfl, _⟩ := hv.shape
 have HG := Lib.hid hg
 have HNE := Lib.hid (blocks_ne hg.1 hg.2 tneMI.symm)
 obtain ⟨c1, f1⟩ := one_cell hg.1
 obtain ⟨c2, f2⟩ := one_cell hg.2
 clear hq hL h h1 h8 hv hg hn f1
 go_enter Tryz.func89, Tryz.ntmps89
 go_wp2_with fail
 refine (HN.out).mono ?_
 rintro e w1 ⟨rfl, hb⟩
 have HG1 := Lib.hid (HG.out.below hb)
 have HB := Lib.hid hb
 have g1 := row_keep HG.out.1 hb
 have g2 := row_keep HG.out.2 hb
 have HG1a := Lib.hid g1
 have HG1b := Lib.hid g2
 obtain ⟨d1, e1⟩ := one_cell g1
 obtain ⟨d2, e2⟩ := one_cell g2
 clear hb c1 c2 f2 g1 g2 d1 e1
 go_wp2
 go_ret
 exact ⟨rfl, ⟨one_other HG1a.out _ _ HNE.out, one_set HG1b.out (.int .i64 (q : Nat))⟩, .int .i64 (q : Nat), below_set HB.out b _⟩
end Go.Proofs.YtnmekbbnglkmcaaGreat
namespace Go.Proofs.YtnmekbbnglkmcaaGreat
open Go.RowKit Go.Lib
def PutAt (w : World) (a b gm : Nat) (p : Nat) : Prop := w.heap[a]? = some (.cells #[.pointer (some ⟨gm, 0, none⟩)] 137 (0, 0)) ∧ w.heap[b]? = some (.cells #[.int .i64 (p : Nat)] 3 (0, 0))
theorem PutAt.below {w w' : World} {a b gm : Nat} {p : Nat} (h : PutAt w a b gm p) (hb : Below w.heap.size w w') : PutAt w' a b gm p := ⟨row_keep h.1 hb, row_keep h.2 hb⟩
def Save2 (w w' : World) (g b : Nat) : Prop := ∃ x y, Below w.heap.size ((w.setCell ⟨g, 0, none⟩ x).setCell ⟨b, 0, none⟩ y) w'
theorem Save2.below {B g b : Nat} {w0 w w' : World} (h : Save2 w w' g b) (h0 : Below B w0 w) (hg : B ≤ g) (hb : B ≤ b) (hs : B ≤ w.heap.size) : Below B w0 w' := by
 obtain ⟨x, y, hy⟩ := h
 exact ((h0.setCell hg x).setCell hb y).trans (hy.mono hs)
theorem Save2.row {b g k : Nat} {w w' : World} {o : Obj} (h : Save2 w w' g b) (hk : w.heap[k]? = some o) (hg : k ≠ g) (hb : k ≠ b) : w'.heap[k]? = some o := by
 obtain ⟨x, y, hy⟩ := h
 rw [hy.block k (Array.getElem?_eq_some_iff.1 hk).1]
 exact one_other (one_other hk _ _ (by simpa using fun e => hg e.symm)) _ _ (by simpa using fun e => hb e.symm)
theorem Save2.size {g b : Nat} {w w' : World} (h : Save2 w w' g b) : w.heap.size ≤ w'.heap.size := by
 obtain ⟨x, y, hy⟩ := h
 have := hy.size
 rwa [set_size, set_size] at this
theorem owns_far {X : World} {B g : Nat} {v : Value} {n : Nat} {xs : List Value} {cs : Array Value} {s : TypeId} {fr : Nat × Nat} (h : X.ownsRow B 5 1 v n xs) (hg : X.heap[g]? = some (.cells cs s fr)) (hne : (s : Nat) ≠ 5) (y : Value) : (X.setCell ⟨g, 0, none⟩ y).ownsRow B 5 1 v n xs := by
 refine ⟨h.1, ?_⟩
 rcases h.2 with h2 | ⟨k, cap, cur, hv, hk, hh, r⟩
 · exact .inl h2
 · exact .inr ⟨k, cap, cur, hv, hk, one_other hh _ _ (by simpa using blocks_ne hh hg hne), r⟩
theorem Given.far {X : World} {B g : Nat} {v r : Value} {l G : List UInt8} {cs : Array Value} {s : TypeId} {fr : Nat × Nat} (h : Given X B v l r G) (hg : X.heap[g]? = some (.cells cs s fr)) (hne : (s : Nat) ≠ 5) (y : Value) : Given (X.setCell ⟨g, 0, none⟩ y) B v l r G := by
 rcases h with h | h
 · exact .inl h
 · exact .inr (owns_far h hg hne y)
theorem Given.step {w w' : World} {B C : Nat} {v r r' : Value} {l G H : List UInt8} (h : Given w B v l r G) (h2 : Given w' C r G r' H) (hC : B ≤ C) (hk : Given w B v l r G → Given w' B v l r G) : Given w' B v l r' H := by
 rcases h2 with ⟨rfl, rfl⟩ | h2
 · exact hk h
 · exact .inr (ownsRow_base h2 hC)
theorem Save2.given {B g b : Nat} {w w' : World} {v r : Value} {l G : List UInt8} {cs ds : Array Value} {s t : TypeId} {fr fs : Nat × Nat} (h : Save2 w w' g b) (hg : w.heap[g]? = some (.cells cs s fr)) (hb : w.heap[b]? = some (.cells ds t fs)) (hs : (s : Nat) ≠ 5) (ht : (t : Nat) ≠ 5) (hv : Given w B v l r G) : Given w' B v l r G := by
 rcases hv with hv | hv
 · exact .inl hv
 · refine .inr ⟨hv.1, ?_⟩
   rcases hv.2 with h2 | ⟨k, cap, cur, e1, e2, hh, e3⟩
   · exact .inl h2
   · exact .inr ⟨k, cap, cur, e1, e2, h.row hh (fun e => blocks_ne hh hg hs e.symm) (fun e => blocks_ne hh hb ht e.symm), e3⟩
theorem putter_any (gm p : Nat) (w : World) : Calls Tryz.prog 87 #[.pointer (some ⟨gm, 0, none⟩), .int .i64 (p : Nat)] w fun e w' => ∃ a b, e = .returned (.func (.func 106) #[] #[.pointer (some ⟨a, 0, none⟩), .pointer (some ⟨b, 0, none⟩)]) ∧ PutAt w' a b gm p ∧ w.heap.size ≤ a ∧ w.heap.size ≤ b ∧ Below w.heap.size w w' := by
 obtain ⟨h1, h2, h3⟩ := two_new w (.pointer (some ⟨gm, 0, none⟩)) (.int .i64 (p : Nat)) 137 3
 have H1 := Lib.hid h1
 have H2 := Lib.hid h2
 have H3 := Lib.hid h3
 clear h1 h2 h3
 go_enter Tryz.func87, Tryz.ntmps87
 go_wp2
 go_ret
 exact ⟨_, _, rfl, ⟨H1.out, by simpa using H2.out⟩, Nat.le_refl _, by simp, H3.out⟩
theorem kept {w w' : World} {a : Addr} {v : Value} (h : w.cell? a = some v) (hb : Below w.heap.size w w') : w'.cell? a = some v := by
 rw [hb.cell (World.block_lt_of_cell? _ _ h)]; exact h
theorem tuple_two {x y u v : Value} (h : Value.tuple #[x, u] = .tuple #[y, v]) : x = y ∧ u = v := by
 injection h with h
 injection h with h
 injection h with h1 h
 injection h with h2 _
 exact ⟨h1, h2⟩
structure QSt (w : World) (a b gm p : Nat) (r : Value) (G H : List UInt8) (b3 b7 b8 b9 b12 : Bool) (s14 s15 : Value) (W : World) : Prop where
 out : b12 = false → Below w.heap.size w W
 size : w.heap.size ≤ W.heap.size
 pa : PutAt W a b gm p
 rm : b12 = false → W.heap[gm]? = some (.cells #[r] 26 (0, 0))
 o1 : b7 = true → b3 = true
 o3 : b8 = true → b7 = true
 o4 : b9 = true → b8 = true
 o8 : b12 = true → b9 = true
 p4 : b9 = true → ∃ v, s14 = .tuple #[s15, v]
 g2 : b7 = true → ∃ ra rc, s14 = .tuple #[.agg #[.slice ra G.length rc], .int .i64 0] ∧ Given W w.heap.size r G (.slice ra G.length rc) H
 g7 : b12 = true → ∃ ra rc, W.heap[gm]? = some (.cells #[.slice ra G.length rc] 26 (0, 0)) ∧ Given W w.heap.size r G (.slice ra G.length rc) H ∧ Below w.heap.size (w.setCell ⟨gm, 0, none⟩ (.slice ra G.length rc)) W
section
variable {w W W1 : World} {a b gm p : Nat} {r : Value} {G H : List UInt8} {b3 b7 b8 b9 b12 : Bool} {s14 s15 : Value}
theorem QSt.start (hb : Below w.heap.size w W) (pa : PutAt w a b gm p) (rm : w.heap[gm]? = some (.cells #[r] 26 (0, 0))) : QSt w a b gm p r G H false false false false false s14 s15 W :=
 { out := fun _ => hb, size := hb.size, pa := pa.below hb, rm := fun _ => row_keep rm hb, o1 := (fun e => by cases e), o3 := (fun e => by cases e), o4 := (fun e => by cases e), o8 := (fun e => by cases e), p4 := (fun e => by cases e), g2 := (fun e => by cases e), g7 := (fun e => by cases e) }
theorem QSt.before (h : QSt w a b gm p r G H b3 b7 b8 b9 b12 s14 s15 W) (h3 : b3 = false ∨ b7 = false) : b12 = false := by
 cases b12 with
 | false => rfl
 | true =>
   have e7 := h.o3 (h.o4 (h.o8 rfl))
   rcases h3 with h3 | h3
   · rw [h3] at h; exact absurd (h.o1 e7) (by decide)
   · rw [h3] at e7; cases e7
theorem QSt.one (h : QSt w a b gm p r G H b3 b7 b8 b9 b12 s14 s15 W) : QSt w a b gm p r G H true b7 b8 b9 b12 s14 s15 W := { h with o1 := fun _ => rfl }
theorem QSt.two {ra : Option Addr} {rc : Nat} (h : QSt w a b gm p r G H true false b8 b9 false s14 s15 W) (hb : Below W.heap.size W W1) (hr : Given W1 w.heap.size r G (.slice ra G.length rc) H) : QSt w a b gm p r G H true true b8 b9 false (.tuple #[.agg #[.slice ra G.length rc], .int .i64 0]) s15 W1 where
 out := fun e => (h.out e).trans (hb.mono (h.out e).size)
 size := Nat.le_trans h.size hb.size
 pa := h.pa.below hb
 rm := fun e => row_keep (h.rm e) hb
 o1 := fun _ => rfl
 o3 := fun _ => rfl
 o4 := h.o4
 o8 := h.o8
 p4 := (fun e => absurd (h.o3 (h.o4 e)) (by decide))
 g2 := fun _ => ⟨ra, rc, rfl, hr⟩
 g7 := (fun e => by cases e)
theorem QSt.three (h : QSt w a b gm p r G H b3 true b8 b9 b12 s14 s15 W) : QSt w a b gm p r G H b3 true true b9 b12 s14 s15 W := { h with o3 := fun _ => rfl, o4 := fun _ => rfl }
theorem QSt.four {x v : Value} (h : QSt w a b gm p r G H b3 b7 true b9 b12 (.tuple #[x, v]) s15 W) : QSt w a b gm p r G H b3 b7 true true b12 (.tuple #[x, v]) x W := { h with o4 := fun _ => rfl, o8 := fun _ => rfl, p4 := fun _ => ⟨v, rfl⟩ }
theorem QSt.seven {ra : Option Addr} {rc : Nat} (h : QSt w a b gm p r G H b3 true true true false s14 (.agg #[.slice ra G.length rc]) W) (hr : Given W w.heap.size r G (.slice ra G.length rc) H) : QSt w a b gm p r G H b3 true true true true s14 (.agg #[.slice ra G.length rc]) (W.setCell ⟨gm, 0, none⟩ (.slice ra G.length rc)) where
 out := (fun e => by cases e)
 size := by rw [set_size]; exact h.size
 pa := ⟨one_other h.pa.1 _ _ (by simpa using blocks_ne h.pa.1 (h.rm rfl) tnePM.symm), one_other h.pa.2 _ _ (by simpa using blocks_ne h.pa.2 (h.rm rfl) tneMI)⟩
 rm := (fun e => by cases e)
 o1 := h.o1
 o3 := fun _ => rfl
 o4 := fun _ => rfl
 o8 := fun _ => rfl
 p4 := h.p4
 g2 := fun e => by obtain ⟨q, c, e1, e2⟩ := h.g2 e; exact ⟨q, c, e1, e2.far (h.rm rfl) tneMU _⟩
 g7 := fun _ => ⟨ra, rc, one_set (h.rm rfl) _, hr.far (h.rm rfl) tneMU _, below_set (h.out rfl) gm _⟩
end
structure RngPutX where
 (b0 b1 b2 b3 b4 b5 b6 b7 b8 b9 b10 b11 b12 : Bool)
 (s7 s8 s9 s10 s11 s12 s13 s14 s6 s15 s16 s17 : Value)
set_option maxHeartbeats 4000000 in
set_option maxRecDepth 100000 in
theorem put_num (a b gm : Nat) (r : Value) (G : List UInt8) (p k q y : Nat) (hq : p + k = q) (hL : G.length ≤ 8192) (h : p + k ≤ G.length) (h1 : 1 ≤ k) (h8 : k ≤ 8) (w : World) (hr : IsArg w r G) (hm : w.heap[gm]? = some (.cells #[r] 26 (0, 0))) (hp : PutAt w a b gm p) :
 Calls Tryz.prog 106 #[.int .i64 (k : Nat), .int .u64 (y : Nat), .pointer (some ⟨a, 0, none⟩), .pointer (some ⟨b, 0, none⟩)] w fun e w' => e = .returned (.tuple #[]) ∧ ∃ ra rc, w'.heap[gm]? = some (.cells #[.slice ra G.length rc] 26 (0, 0)) ∧ PutAt w' a b gm q ∧ Given w' w.heap.size r G (.slice ra G.length rc) (putAt G p k y) ∧ Save2 w w' gm b := by
 obtain ⟨H, hH⟩ : ∃ H, H = putAt G p k y := ⟨_, rfl⟩
 rw [← hH]
 obtain ⟨va, vc, rfl, _⟩ := hr.shape
 have HPN := Lib.hid (show ∀ W, Below w.heap.size w W → Calls Tryz.prog 107 #[.agg #[.slice va G.length vc], .int .i64 (p : Nat), .int .i64 (k : Nat), .int .u64 (y : Nat)] W fun e w' => ∃ ra rc, e = .returned (.tuple #[.agg #[.slice ra G.length rc], .int .i64 0]) ∧ Given w' w.heap.size (.slice va G.length vc) G (.slice ra G.length rc) H ∧ Below W.heap.size W w' from
  fun W hb => (putNum_at y hL h h1 h8 W (hr.below hb)).mono fun e w' ⟨s, g1, g2, g3⟩ => by
   rw [← hH] at g2
   have h5 : H.length = G.length := by rw [hH]; exact putAt_length y h
   obtain ⟨ra, rc, hs, _⟩ := (g2.arg (hr.below hb) g3).shape
   rw [h5] at hs
   subst hs
   exact ⟨ra, rc, g1, g2.base hb.size, g3⟩)
 have hpq : (p : Int) + (k : Nat) = (q : Nat) := by omega
 have hq1 : q ≤ 8192 := by omega
 have HM := Lib.hid hm
 have HP := Lib.hid hp
 clear hH hq hL h h1 h8 hr hm hp
 go_enter Tryz.func106, Tryz.ntmps106
 go_wp2_with fail
 refine wp_region_rec (X := RngPutX) (by kernel_rfl) (by kernel_rfl) (fun x => #[x.b0, x.b1, x.b2, x.b3, x.b4, x.b5, x.b6, x.b7, x.b8, x.b9, x.b10, x.b11, x.b12]) (fun x => { tmps := #[.int .i64 (k : Nat), .int .u64 (y : Nat), .pointer (some ⟨a, 0, none⟩), .pointer (some ⟨b, 0, none⟩), undef, undef, x.s6, x.s7, x.s8, x.s9, x.s10, x.s11, x.s12, x.s13, x.s14, x.s15, x.s16, x.s17, undef, undef, undef], defers := [] }) (fun x W => (x.b0 = true → x.s7 = .pointer (some ⟨gm, 0, none⟩)) ∧ (x.b1 = true → x.s8 = .pointer (some ⟨gm, 0, none⟩)) ∧ (x.b2 = true → x.s9 = .pointer (some ⟨gm, 0, none⟩)) ∧ (x.b3 = true → x.s10 = .agg #[.slice va G.length vc]) ∧ (x.b4 = true → x.s11 = .int .i64 (p : Nat)) ∧ (x.b5 = true → x.s12 = .int .i64 (k : Nat)) ∧ (x.b6 = true → x.s13 = .int .u64 (y : Nat)) ∧ (x.b8 = true → x.s6 = x.s14) ∧ (x.b10 = true → x.s16 = .int .i64 0) ∧ (x.b11 = true → x.s17 = .pointer (some ⟨gm, 0, none⟩)) ∧ (QSt w a b gm p (.slice va G.length vc) G H x.b3 x.b7 x.b8 x.b9 x.b12 x.s14 x.s15 W)) ⟨false, false, false, false, false, false, false, false, false, false, false, false, false, undef, undef, undef, undef, undef, undef, undef, undef, undef, undef, undef, undef⟩ rfl rfl ⟨(fun h => by cases h), (fun h => by cases h), (fun h => by cases h), (fun h => by cases h), (fun h => by cases h), (fun h => by cases h), (fun h => by cases h), (fun h => by cases h), (fun h => by cases h), (fun h => by cases h), (QSt.start (Below.refl _ _).drew HP.out HM.out)⟩ (fun _ => rfl) ?hstep ?hdone
 case hstep =>
  rintro ⟨b0, b1, b2, b3, b4, b5, b6, b7, b8, b9, b10, b11, b12, s7, s8, s9, s10, s11, s12, s13, s14, s6, s15, s16, s17⟩ W hI i hi
  dsimp only at hI hi ⊢
  have HI := Lib.hid hI
  clear hI
  rw [Region.ready, List.mem_filter, List.mem_range] at hi
  obtain ⟨hlt, hp⟩ := hi
  have hi7 : i = 0 ∨ i = 1 ∨ i = 2 ∨ i = 3 ∨ i = 4 ∨ i = 5 ∨ i = 6 ∨ i = 7 ∨ i = 8 ∨ i = 9 ∨ i = 10 ∨ i = 11 ∨ i = 12 := by simp at hlt; omega
  clear hlt
  rcases hi7 with rfl | rfl | rfl | rfl | rfl | rfl | rfl | rfl | rfl | rfl | rfl | rfl | rfl
  all_goals simp [Region.binds] at hp
  · obtain rfl : b0 = false := by revert hp; cases b0 <;> simp
    clear hp
    refine inv_op (o := ⟨some 7, _, _, _, _, _⟩) rfl (fun K' hK' => ?_)
    have gI := HI.out.2.2.2.2.2.2.2.2.2.2
    obtain ⟨hc1, hc2⟩ := one_cell (gI.pa.1)
    go_simp
    exact hK'.out _ _ ⟨.mk .., rfl, rfl, (Upd (fun _ => rfl)) HI.out⟩
  · obtain rfl : b1 = false := by revert hp; cases b1 <;> simp
    clear hp
    refine inv_op (o := ⟨some 8, _, _, _, _, _⟩) rfl (fun K' hK' => ?_)
    have gI := HI.out.2.2.2.2.2.2.2.2.2.2
    obtain ⟨hc1, hc2⟩ := one_cell (gI.pa.1)
    go_simp
    exact hK'.out _ _ ⟨.mk .., rfl, rfl, Nxt (Upd (fun _ => rfl)) HI.out⟩
  · obtain ⟨rfl, e1⟩ : b2 = false ∧ b1 = true := by revert hp; cases b2 <;> cases b1 <;> simp
    clear hp
    obtain rfl := (HI.out.2.1) e1
    refine inv_op (o := ⟨some 9, _, _, _, _, _⟩) rfl (fun K' hK' => ?_)
    go_simp
    exact hK'.out _ _ ⟨.mk .., rfl, rfl, Nxt (Nxt (Upd (fun _ => rfl))) HI.out⟩
  · obtain ⟨rfl, e2⟩ : b3 = false ∧ b2 = true := by revert hp; cases b3 <;> cases b2 <;> simp
    clear hp
    obtain rfl := (HI.out.2.2.1) e2
    refine inv_op (o := ⟨some 10, _, _, _, _, _⟩) rfl (fun K' hK' => ?_)
    have gI := HI.out.2.2.2.2.2.2.2.2.2.2
    have hb12 := gI.before (.inl rfl)
    subst hb12
    obtain ⟨hc1, hc2⟩ := one_cell (gI.rm rfl)
    go_simp
    obtain ⟨h0, h1, h2, h3, h4, h5, h6, h8, h10, h11, gI⟩ := HI.out
    exact hK'.out _ _ ⟨.mk .., rfl, rfl, h0, h1, h2, (fun _ => rfl), h4, h5, h6, h8, h10, h11, gI.one⟩
  · obtain rfl : b4 = false := by revert hp; cases b4 <;> simp
    clear hp
    refine inv_op (o := ⟨some 11, _, _, _, _, _⟩) rfl (fun K' hK' => ?_)
    have gI := HI.out.2.2.2.2.2.2.2.2.2.2
    obtain ⟨hc1, hc2⟩ := one_cell (gI.pa.2)
    go_simp
    exact hK'.out _ _ ⟨.mk .., rfl, rfl, Nx4 (Upd (fun _ => rfl)) HI.out⟩
  · obtain rfl : b5 = false := by revert hp; cases b5 <;> simp
    clear hp
    refine inv_op (o := ⟨some 12, _, _, _, _, _⟩) rfl (fun K' hK' => ?_)
    go_simp
    exact hK'.out _ _ ⟨.mk .., rfl, rfl, Nxt (Nx4 (Upd (fun _ => rfl))) HI.out⟩
  · obtain rfl : b6 = false := by revert hp; cases b6 <;> simp
    clear hp
    refine inv_op (o := ⟨some 13, _, _, _, _, _⟩) rfl (fun K' hK' => ?_)
    go_simp
    exact hK'.out _ _ ⟨.mk .., rfl, rfl, Nxt (Nxt (Nx4 (Upd (fun _ => rfl)))) HI.out⟩
  · have hn7 : b7 = false := by revert hp; cases b7 <;> simp
    have e3 : b3 = true := by revert hp; cases b3 <;> simp
    have e4 : b4 = true := by revert hp; cases b4 <;> simp
    have e5 : b5 = true := by revert hp; cases b5 <;> simp
    have e6 : b6 = true := by revert hp; cases b6 <;> simp
    clear hp
    obtain rfl := (HI.out.2.2.2.1) e3
    obtain rfl := (HI.out.2.2.2.2.1) e4
    obtain rfl := (HI.out.2.2.2.2.2.1) e5
    obtain rfl := (HI.out.2.2.2.2.2.2.1) e6
    subst hn7
    refine inv_op (o := ⟨some 14, _, _, _, _, _⟩) rfl (fun K' hK' => ?_)
    have gI := HI.out.2.2.2.2.2.2.2.2.2.2
    have hb12 := gI.before (.inr rfl)
    subst hb12
    subst e3
    go_simp
    refine (HPN.out W (gI.out rfl)).mono ?_
    rintro e w1 ⟨ra, rc, rfl, hr, bn⟩
    obtain ⟨h0, h1, h2, h3, h4, h5, h6, h8, h10, h11, gI⟩ := HI.out
    exact hK'.out _ _ ⟨.mk .., rfl, rfl, h0, h1, h2, h3, h4, h5, h6, (fun e3 => absurd (gI.o3 e3) (by decide)), h10, h11, (gI.two bn hr)⟩
  · obtain ⟨rfl, e7⟩ : b8 = false ∧ b7 = true := by revert hp; cases b8 <;> cases b7 <;> simp
    clear hp
    refine inv_op (o := ⟨some 6, _, _, _, _, _⟩) rfl (fun K' hK' => ?_)
    subst e7
    go_simp
    obtain ⟨h0, h1, h2, h3, h4, h5, h6, h8, h10, h11, gI⟩ := HI.out
    exact hK'.out _ _ ⟨.mk .., rfl, rfl, h0, h1, h2, h3, h4, h5, h6, (fun _ => rfl), h10, h11, gI.three⟩
  · obtain ⟨rfl, e8⟩ : b9 = false ∧ b8 = true := by revert hp; cases b9 <;> cases b8 <;> simp
    clear hp
    obtain rfl := (HI.out.2.2.2.2.2.2.2.1) e8
    refine inv_op (o := ⟨some 15, _, _, _, _, _⟩) rfl (fun K' hK' => ?_)
    have gI := HI.out.2.2.2.2.2.2.2.2.2.2
    obtain ⟨ra, rc, rfl, _⟩ := gI.g2 (gI.o3 e8)
    subst e8
    go_simp
    obtain ⟨h0, h1, h2, h3, h4, h5, h6, h8, h10, h11, gI⟩ := HI.out
    exact hK'.out _ _ ⟨.mk .., rfl, rfl, h0, h1, h2, h3, h4, h5, h6, h8, h10, h11, gI.four⟩
  · obtain ⟨rfl, e8⟩ : b10 = false ∧ b8 = true := by revert hp; cases b10 <;> cases b8 <;> simp
    clear hp
    obtain rfl := (HI.out.2.2.2.2.2.2.2.1) e8
    refine inv_op (o := ⟨some 16, _, _, _, _, _⟩) rfl (fun K' hK' => ?_)
    have gI := HI.out.2.2.2.2.2.2.2.2.2.2
    obtain ⟨ra, rc, rfl, _⟩ := gI.g2 (gI.o3 e8)
    go_simp
    exact hK'.out _ _ ⟨.mk .., rfl, rfl, Nx4 (Nx4 (Upd (fun _ => rfl))) HI.out⟩
  · obtain ⟨rfl, e0⟩ : b11 = false ∧ b0 = true := by revert hp; cases b11 <;> cases b0 <;> simp
    clear hp
    obtain rfl := (HI.out.1) e0
    refine inv_op (o := ⟨some 17, _, _, _, _, _⟩) rfl (fun K' hK' => ?_)
    go_simp
    exact hK'.out _ _ ⟨.mk .., rfl, rfl, Nxt (Nx4 (Nx4 (Upd (fun _ => rfl)))) HI.out⟩
  · have hn12 : b12 = false := by revert hp; cases b12 <;> simp
    have e0 : b0 = true := by revert hp; cases b0 <;> simp
    have e1 : b1 = true := by revert hp; cases b1 <;> simp
    have e2 : b2 = true := by revert hp; cases b2 <;> simp
    have e3 : b3 = true := by revert hp; cases b3 <;> simp
    have e4 : b4 = true := by revert hp; cases b4 <;> simp
    have e5 : b5 = true := by revert hp; cases b5 <;> simp
    have e6 : b6 = true := by revert hp; cases b6 <;> simp
    have e7 : b7 = true := by revert hp; cases b7 <;> simp
    have e8 : b8 = true := by revert hp; cases b8 <;> simp
    have e9 : b9 = true := by revert hp; cases b9 <;> simp
    have e11 : b11 = true := by revert hp; cases b11 <;> simp
    clear hp
    obtain rfl := (HI.out.2.2.2.2.2.2.2.2.2.1) e11
    subst hn12
    refine inv_op (o := ⟨none, _, _, _, _, _⟩) rfl (fun K' hK' => ?_)
    have gI := HI.out.2.2.2.2.2.2.2.2.2.2
    obtain ⟨ra, rc, hw, hown⟩ := gI.g2 e7
    obtain ⟨v, hv⟩ := gI.p4 e9
    obtain ⟨rfl, hvv⟩ := tuple_two (hv.symm.trans hw)
    clear hv hw hvv
    obtain ⟨hc1, hc2⟩ := one_cell (gI.rm rfl)
    subst e7
    subst e8
    subst e9
    go_simp
    obtain ⟨h0, h1, h2, h3, h4, h5, h6, h8, h10, h11, gI⟩ := HI.out
    exact hK'.out _ _ ⟨.mk .., rfl, rfl, h0, h1, h2, h3, h4, h5, h6, h8, h10, h11, (gI.seven hown)⟩
 case hdone =>
  rintro ⟨b0, b1, b2, b3, b4, b5, b6, b7, b8, b9, b10, b11, b12, s7, s8, s9, s10, s11, s12, s13, s14, s6, s15, s16, s17⟩ W hI hall
  dsimp only at hI hall ⊢
  have HI := Lib.hid hI
  clear hI
  obtain rfl : b0 = true := hall 0 (by decide)
  obtain rfl : b1 = true := hall 1 (by decide)
  obtain rfl : b2 = true := hall 2 (by decide)
  obtain rfl : b3 = true := hall 3 (by decide)
  obtain rfl : b4 = true := hall 4 (by decide)
  obtain rfl : b5 = true := hall 5 (by decide)
  obtain rfl : b6 = true := hall 6 (by decide)
  obtain rfl : b7 = true := hall 7 (by decide)
  obtain rfl : b8 = true := hall 8 (by decide)
  obtain rfl : b9 = true := hall 9 (by decide)
  obtain rfl : b10 = true := hall 10 (by decide)
  obtain rfl : b11 = true := hall 11 (by decide)
  obtain rfl : b12 = true := hall 12 (by decide)
  have gI := HI.out.2.2.2.2.2.2.2.2.2.2
  clear HI hall
  obtain ⟨w1, hw1⟩ : ∃ u, u = W := ⟨_, rfl⟩
  subst hw1
  obtain ⟨ra, rc, hm1, hg1, hb1⟩ := gI.g7 rfl
  have hpa := gI.pa
  have HM1 := Lib.hid hm1
  have HG1 := Lib.hid hg1
  have HB1 := Lib.hid hb1
  have HPA := Lib.hid hpa
  obtain ⟨d1, d2⟩ := one_cell hpa.2
  clear gI hm1 hg1 hb1 hpa
  go_wp2
  refine bodyPost_end (v := .tuple #[]) (by simp [results, Tryz.results106]) rfl ⟨rfl, ra, rc, ?_, ?_, ?_, .slice ra G.length rc, .int .i64 (q : Nat), ?_⟩
  · exact one_other HM1.out _ _ (by simpa using blocks_ne HM1.out HPA.out.2 tneMI.symm)
  · exact ⟨one_other HPA.out.1 _ _ (by simpa using blocks_ne HPA.out.1 HPA.out.2 tnePI.symm), one_set HPA.out.2 _⟩
  · exact HG1.out.far HPA.out.2 tneIU _
  · have h := HB1.out
    have h2 : Below (w.setCell ⟨gm, 0, none⟩ (.slice ra G.length rc)).heap.size (w.setCell ⟨gm, 0, none⟩ (.slice ra G.length rc)) w1 := by rw [set_size]; exact h
    have h3 := below_set h2 b (.int .i64 (q : Nat))
    rw [set_size] at h3
    exact h3
end Go.Proofs.YtnmekbbnglkmcaaGreat
namespace Go.Proofs.YtnmekbbnglkmcaaGreat
open Go.RowKit Go.Lib
theorem tneDI : (112 : Nat) ≠ 3 := by decide
theorem tneDM : (112 : Nat) ≠ 26 := by decide
theorem tneUI : (53 : Nat) ≠ 3 := by decide
theorem tneUM : (53 : Nat) ≠ 26 := by decide
theorem at_cell {X : World} {g : Nat} {cs : Array Value} {t : TypeId} (h : X.heap[g]? = some (.cells cs t (0, 0))) (i : Nat) (u : Value) (hu : cs[i]? = some u) : X.cell? ⟨g, i, none⟩ = some u ∧ X.frozen? ⟨g, i, none⟩ = false := by
 refine ⟨?_, ?_⟩
 · unfold World.cell?; rw [h]; exact hu
 · unfold World.frozen?; rw [h]; simp
theorem set_at {X : World} {g : Nat} {cs : Array Value} {t : TypeId} (h : X.heap[g]? = some (.cells cs t (0, 0))) (i : Nat) (u : Value) : (X.setCell ⟨g, i, none⟩ u).heap[g]? = some (.cells (cs.setIfInBounds i u) t (0, 0)) := by
 simp [World.setCell, Array.getElem?_modify, h]
structure GSt (w : World) (ga gb gd gr : Nat) (v : Value) (p : Nat) (cs rs : Array Value) (t : TypeId) (W : World) : Prop where
 out : Below w.heap.size w W
 lo : w.heap.size ≤ gb ∧ w.heap.size ≤ gd
 ne : gr ≠ gd
 ti : (t : Nat) ≠ 3
 tm : (t : Nat) ≠ 26
 get : GetAt W ga gb v p
 box : W.heap[gd]? = some (.cells cs t (0, 0))
 res : W.heap[gr]? = some (.cells rs t (0, 0))
theorem GSt.call {w W W1 : World} {ga gb gd gr p q : Nat} {v : Value} {cs rs : Array Value} {t : TypeId} (h : GSt w ga gb gd gr v p cs rs t W) (hg : GetAt W1 ga gb v q) (hs : Save1 W W1 gb) : GSt w ga gb gd gr v q cs rs t W1 where
 out := hs.below h.out h.lo.1 h.out.size
 lo := h.lo
 ne := h.ne
 ti := h.ti
 tm := h.tm
 get := hg
 box := hs.row h.box (blocks_ne h.get.2 h.box h.ti)
 res := hs.row h.res (blocks_ne h.get.2 h.res h.ti)
theorem GSt.store {w W : World} {ga gb gd gr p : Nat} {v : Value} {cs rs : Array Value} {t : TypeId} (h : GSt w ga gb gd gr v p cs rs t W) (i : Nat) (u : Value) : GSt w ga gb gd gr v p (cs.setIfInBounds i u) rs t (W.setCell ⟨gd, i, none⟩ u) where
 out := h.out.setCell h.lo.2 u
 lo := h.lo
 ne := h.ne
 ti := h.ti
 tm := h.tm
 get := ⟨one_other h.get.1 _ _ (blocks_ne h.get.1 h.box h.tm), one_other h.get.2 _ _ (blocks_ne h.get.2 h.box h.ti)⟩
 box := set_at h.box i u
 res := one_other h.res _ _ (fun e => h.ne e.symm)
set_option maxHeartbeats 4000000 in
set_option maxRecDepth 100000 in
theorem desc_in (v : Value) (l : List UInt8) (w : World) (hv : IsArg w v l) (B N i p : Nat) (hok : RingOk l.length B N) (hi : i < N) (hp : B + 16 * i = p) (x0 x1 x2 x3 : Nat) (h0 : numAt l p 8 = x0) (h1 : numAt l (p + 8) 4 = x1) (h2 : numAt l (p + 12) 2 = x2) (h3 : numAt l (p + 14) 2 = x3) :
 Calls Tryz.prog 67 #[.agg #[v], .int .i64 (B : Nat), .int .i64 (N : Nat), .int .i64 (i : Nat)] w fun e w' => e = .returned (.tuple #[.agg #[.int .u64 (x0 : Nat), .int .u32 (x1 : Nat), .int .u16 (x2 : Nat), .int .u16 (x3 : Nat)], .int .i64 0]) ∧ Below w.heap.size w w' := by
 have hf : descF l.length (B : Int) (N : Int) (i : Int) = 0 := by rw [descF, if_pos hok.ok, if_pos (by omega)]
 have hN := hok.right.le
 have hsz := sizeN_le N
 have hfit := hok.fits
 have hL := hok.few
 have HL := Lib.hid hL
 have hpl : p + 16 ≤ l.length := by omega
 have HPL := Lib.hid hpl
 have HFD := Lib.hid hf
 have HV := Lib.hid hv
 have HB0 := Lib.hid (((Below.refl w.heap.size w).alloc (Nat.le_refl _) (.cells #[v] 26)).alloc (by simp) (.cells #[.int .u64 0, .int .u32 0, .int .u16 0, .int .u16 0] 112))
 have HMX := Lib.hid (show l.length ≤ maxLen by unfold maxLen; omega)
 have HQ := Lib.hid (show ((i : Nat) : Int) * 16 = ((16 * i : Nat) : Int) by omega)
 have HT := Lib.hid (show ((B : Nat) : Int) + ((16 * i : Nat) : Int) = (p : Nat) by omega)
 have HQ1 := Lib.hid (show -9223372036854775808 ≤ ((16 * i : Nat) : Int) ∧ ((16 * i : Nat) : Int) ≤ 9223372036854775807 by omega)
 have HT1 := Lib.hid (show -9223372036854775808 ≤ ((p : Nat) : Int) ∧ ((p : Nat) : Int) ≤ 9223372036854775807 by omega)
 have hx0 : x0 < 18446744073709551616 := by rw [← h0]; exact numAt_lt l p 8
 have hx1 : x1 < 4294967296 := by rw [← h1]; exact numAt_lt l (p + 8) 4
 have hx2 : x2 < 65536 := by rw [← h2]; exact numAt_lt l (p + 12) 2
 have hx3 : x3 < 65536 := by rw [← h3]; exact numAt_lt l (p + 14) 2
 have H0 := Lib.hid h0
 have H1 := Lib.hid h1
 have H2 := Lib.hid h2
 have H3 := Lib.hid h3
 obtain ⟨va, vc, rfl, _⟩ := hv.shape
 clear hf hok hN hsz hfit hL hpl hv h0 h1 h2 h3 hp hi
 go_enter Tryz.func67, Tryz.ntmps67
 go_wp2_with fail
 refine (descFault_any _ _ _ HMX.out _ _ _ _ HFD.out _).mono ?_
 rintro e w1 ⟨rfl, hb⟩
 have hr0 := row_keep (row_keep (heap_alloc_new w (.cells #[.slice va l.length vc] 26)) ((Below.refl _ _).alloc (Nat.le_refl _) (.cells #[.int .u64 0, .int .u32 0, .int .u16 0, .int .u16 0] 112))) hb
 have hr1 := row_keep (heap_alloc_new (w.alloc (.cells #[.slice va l.length vc] 26)) (.cells #[.int .u64 0, .int .u32 0, .int .u16 0, .int .u16 0] 112)) hb
 have HB1 := Lib.hid (HB0.out.trans (hb.mono (by simp; omega)))
 have HR0 := Lib.hid hr0
 have HR1 := Lib.hid (show w1.heap[w.heap.size + 1]? = some (.cells #[.int .u64 0, .int .u32 0, .int .u16 0, .int .u16 0] 112) by simpa using hr1)
 obtain ⟨c1, f1⟩ := one_cell hr0
 clear hb hr0 hr1 f1
 go_wp2_with fail
 go_region_held3 (fun W => W.cell? ⟨w.heap.size, 0, none⟩ = some (.slice va l.length vc)) (first | (with_reducible assumption) | go_keep) (first
  | (go_at_call 88; refine (descs_any _ _).mono ?_; rintro e w2 ⟨a, b, rfl, hr2, hb2⟩; have c2 := kept (w := w1.drew) c1 hb2; have HR2 := Lib.hid hr2; clear hr2)
  | (go_at_call 116; refine (row1_any a b _ 16 _ _ _ HQ.out HT.out HQ1.out HT1.out _ HR2.out).mono ?_; rintro e w3 ⟨rfl, rfl⟩)
  | (go_at_call 65; refine (getter_any _ l _ _ ((HV.out.below (HB1.out.drew)).below hb2)).mono ?_; rintro e w4 ⟨ga, gb, rfl, hg, ha0, hb0, hb4⟩; have c4 := kept c2 hb4; have HG4 := Lib.hid hg; clear hg))
 have hbw : Below w.heap.size w w4 := (HB1.out.drew.trans (hb2.mono HB1.out.drew.size)).trans (hb4.mono (HB1.out.drew.trans (hb2.mono HB1.out.drew.size)).size)
 have hr4 := row_keep (row_keep (w := w1.drew) HR1.out hb2) hb4
 have hz : w.heap.size + 1 < w4.heap.size := (Array.getElem?_eq_some_iff.1 hr4).1
 have hgb : w.heap.size ≤ gb := Nat.le_trans (Nat.le_trans HB1.out.size (show w1.heap.size ≤ w3.heap.size from hb2.size)) hb0
 have HG := Lib.hid (show GSt w ga gb w4.heap.size (w.heap.size + 1) (.slice va l.length vc) p #[.int .u64 0, .int .u32 0, .int .u16 0, .int .u16 0] #[.int .u64 0, .int .u32 0, .int .u16 0, .int .u16 0] 112 (w4.alloc (.cells #[.int .u64 0, .int .u32 0, .int .u16 0, .int .u16 0] 112)) from
  { out := hbw.alloc hbw.size _, lo := ⟨hgb, hbw.size⟩, ne := by omega, ti := tneDI, tm := tneDM, get := HG4.out.below ((Below.refl _ _).alloc (Nat.le_refl _) _), box := heap_alloc_new w4 _, res := row_keep hr4 ((Below.refl _ _).alloc (Nat.le_refl _) _) })
 have HGB := Lib.hid hgb
 have w32 : IntKind.u32.wrap ((x1 : Nat) : Int) = (x1 : Nat) := IntWalk.u32_in _ (by omega)
 have w16 : IntKind.u16.wrap ((x2 : Nat) : Int) = (x2 : Nat) := IntWalk.u16_in _ (by omega)
 have w17 : IntKind.u16.wrap ((x3 : Nat) : Int) = (x3 : Nat) := IntWalk.u16_in _ (by omega)
 have hne1 : w4.heap.size ≠ w.heap.size + 1 := by omega
 have hne2 : w.heap.size + 1 ≠ w4.heap.size := by omega
 clear hbw hr4 hz hgb hb2 hb4 c1 c2 c4 ha0 hb0
 go_wp2_with fail
 refine (get_num ga gb _ l p 8 (p + 8) (by omega) HL.out (by have := HPL.out; omega) (by decide) (by decide) _ (HV.out.below HG.out.out) HG.out.get).mono ?_
 rintro e w5 ⟨rfl, hg, hs⟩
 rw [H0.out]
 replace HG := Lib.hid (HG.out.call hg hs)
 obtain ⟨d0, f0⟩ := at_cell HG.out.box 0 _ rfl
 clear hg hs
 replace HG := Lib.hid (HG.out.store 0 (.int .u64 (x0 : Nat)))
 go_wp2_with fail
 refine (get_num ga gb _ l (p + 8) 4 (p + 12) (by omega) HL.out (by have := HPL.out; omega) (by decide) (by decide) _ (HV.out.below HG.out.out) HG.out.get).mono ?_
 rintro e w6 ⟨rfl, hg, hs⟩
 rw [H1.out]
 replace HG := Lib.hid (HG.out.call hg hs)
 obtain ⟨d1, f1⟩ := at_cell HG.out.box 1 _ rfl
 clear hg hs
 replace HG := Lib.hid (HG.out.store 1 (.int .u32 (x1 : Nat)))
 go_wp2_with fail
 refine (get_num ga gb _ l (p + 12) 2 (p + 14) (by omega) HL.out (by have := HPL.out; omega) (by decide) (by decide) _ (HV.out.below HG.out.out) HG.out.get).mono ?_
 rintro e w7 ⟨rfl, hg, hs⟩
 rw [H2.out]
 replace HG := Lib.hid (HG.out.call hg hs)
 obtain ⟨d2, f2⟩ := at_cell HG.out.box 2 _ rfl
 clear hg hs
 replace HG := Lib.hid (HG.out.store 2 (.int .u16 (x2 : Nat)))
 go_wp2_with fail
 refine (get_num ga gb _ l (p + 14) 2 (p + 16) (by omega) HL.out (by have := HPL.out; omega) (by decide) (by decide) _ (HV.out.below HG.out.out) HG.out.get).mono ?_
 rintro e w8 ⟨rfl, hg, hs⟩
 rw [H3.out]
 replace HG := Lib.hid (HG.out.call hg hs)
 obtain ⟨d3, f3⟩ := at_cell HG.out.box 3 _ rfl
 clear hg hs
 clear d0 f0 d1 f1 d2 f2
 obtain ⟨e0, _⟩ := at_cell HG.out.box 0 _ rfl
 obtain ⟨e1, _⟩ := at_cell HG.out.box 1 _ rfl
 obtain ⟨e2, _⟩ := at_cell HG.out.box 2 _ rfl
 obtain ⟨r0, g0⟩ := at_cell HG.out.res 0 _ rfl
 obtain ⟨r1, g1⟩ := at_cell HG.out.res 1 _ rfl
 obtain ⟨r2, g2⟩ := at_cell HG.out.res 2 _ rfl
 obtain ⟨r3, g3⟩ := at_cell HG.out.res 3 _ rfl
 go_wp2
 refine bodyPost_ret (v := .tuple #[.agg #[.int .u64 (x0 : Nat), .int .u32 (x1 : Nat), .int .u16 (x2 : Nat), .int .u16 (x3 : Nat)], .int .i64 0]) (by simp [results, Tryz.results67, go_sem, r0, r1, r2, r3]) rfl ⟨rfl, ?_⟩
 exact ((((HG.out.out.setCell HG.out.lo.2 _).setCell (by simp) _).setCell (by simp) _).setCell (by simp) _).setCell (by simp) _
set_option maxHeartbeats 1000000 in
set_option maxRecDepth 100000 in
theorem desc_out (a : Option Addr) (n c : Nat) (hn : n ≤ maxLen) (b z i : Int) (F : Int) (hF : descF n b z i = F) (h0 : F ≠ 0) (w : World) :
 Calls Tryz.prog 67 #[.agg #[.slice a n c], .int .i64 b, .int .i64 z, .int .i64 i] w fun e w' => e = .returned (.tuple #[.agg #[.int .u64 0, .int .u32 0, .int .u16 0, .int .u16 0], .int .i64 F]) ∧ Below w.heap.size w w' := by
 have HB0 := Lib.hid (((Below.refl w.heap.size w).alloc (Nat.le_refl _) (.cells #[.slice a n c] 26)).alloc (by simp) (.cells #[.int .u64 0, .int .u32 0, .int .u16 0, .int .u16 0] 112))
 have HN := Lib.hid hn
 have HF := Lib.hid hF
 clear hn hF
 go_enter Tryz.func67, Tryz.ntmps67
 go_wp2_with fail
 refine (descFault_any _ _ _ HN.out _ _ _ _ HF.out _).mono ?_
 rintro e w1 ⟨rfl, hb⟩
 have hr1 := row_keep (heap_alloc_new (w.alloc (.cells #[.slice a n c] 26)) (.cells #[.int .u64 0, .int .u32 0, .int .u16 0, .int .u16 0] 112)) hb
 have HR1 := Lib.hid (show w1.heap[w.heap.size + 1]? = some (.cells #[.int .u64 0, .int .u32 0, .int .u16 0, .int .u16 0] 112) by simpa using hr1)
 have HB1 := Lib.hid (HB0.out.trans (hb.mono (by simp; omega)))
 obtain ⟨r0, g0⟩ := at_cell HR1.out 0 _ rfl
 obtain ⟨r1, g1⟩ := at_cell HR1.out 1 _ rfl
 obtain ⟨r2, g2⟩ := at_cell HR1.out 2 _ rfl
 obtain ⟨r3, g3⟩ := at_cell HR1.out 3 _ rfl
 clear hb hr1
 go_wp2
 refine bodyPost_ret (v := .tuple #[.agg #[.int .u64 0, .int .u32 0, .int .u16 0, .int .u16 0], .int .i64 F]) (by simp [results, Tryz.results67, go_sem, r0, r1, r2, r3]) rfl ⟨rfl, ?_⟩
 exact (((HB1.out.setCell (by simp) _).setCell (by simp) _).setCell (by simp) _).setCell (by simp) _
theorem desc_any (v : Value) (l : List UInt8) (b z i : Int) (F : Int) (x0 x1 x2 x3 : Nat) (hF : descF l.length b z i = F) (h0 : descX l b z i 0 8 = x0) (h1 : descX l b z i 8 4 = x1) (h2 : descX l b z i 12 2 = x2) (h3 : descX l b z i 14 2 = x3) (hl : l.length ≤ maxLen) (w : World) (hv : IsArg w v l) :
 Calls Tryz.prog 67 #[.agg #[v], .int .i64 b, .int .i64 z, .int .i64 i] w fun e w' => e = .returned (.tuple #[.agg #[.int .u64 (x0 : Nat), .int .u32 (x1 : Nat), .int .u16 (x2 : Nat), .int .u16 (x3 : Nat)], .int .i64 F]) ∧ Below w.heap.size w w' := by
 by_cases hz : F = 0
 · subst hz
   rcases desc_cases l.length b z i with ⟨_, h⟩ | ⟨_, _, h⟩ | ⟨B, N, I, rfl, rfl, rfl, hI, hok, h⟩
   · omega
   · omega
   · rw [descX, if_pos h, Int.toNat_natCast, Int.toNat_natCast] at h0 h1 h2 h3
     exact desc_in v l w hv B N I (B + 16 * I) hok hI rfl x0 x1 x2 x3 h0 h1 h2 h3
 · have hx : ∀ o k, descX l b z i o k = 0 := fun o k => by rw [descX, if_neg (by rw [hF]; exact hz)]
   rw [hx] at h0 h1 h2 h3
   subst h0
   subst h1
   subst h2
   subst h3
   obtain ⟨a, c, rfl, _⟩ := hv.shape
   exact desc_out a l.length c hl b z i F hF hz w
set_option maxHeartbeats 4000000 in
set_option maxRecDepth 100000 in
theorem availAt_in (v : Value) (l : List UInt8) (w : World) (hv : IsArg w v l) (B N at_ p : Nat) (hok : RingOk l.length B N) (hi : at_ < 65536) (hp : B + 16 * N + 4 + 2 * (at_ % N) = p) (y : Nat) (hy : numAt l p 2 = y) :
 Calls Tryz.prog 31 #[.agg #[v], .int .i64 (B : Nat), .int .i64 (N : Nat), .int .u16 (at_ : Nat)] w fun e w' => e = .returned (.tuple #[.int .i64 (y : Nat), .int .i64 0]) ∧ Below w.heap.size w w' := by
 have hN := hok.right.le
 have hsz := sizeN_le N
 have hfit := hok.fits
 have hL := hok.few
 have HL := Lib.hid hL
 have HB8 := Lib.hid (show B ≤ 8192 by omega)
 have HN := Lib.hid hN
 have HMX := Lib.hid (show l.length ≤ maxLen by unfold maxLen; omega)
 have HF := Lib.hid (show ringF l.length (B : Int) (N : Int) = 0 by rw [ringF, if_pos hok.ok])
 have HV := Lib.hid hv
 obtain ⟨j, hj⟩ : ∃ j, at_ % N = j := ⟨_, rfl⟩
 have hjn : j < N := by rw [← hj]; exact Nat.mod_lt _ (by omega)
 rw [hj] at hp
 have HJ := Lib.hid hj
 have HI := Lib.hid hi
 have HQ := Lib.hid (show ((j : Nat) : Int) * 2 = ((2 * j : Nat) : Int) by omega)
 have HT := Lib.hid (show ((B + 16 * N + 4 : Nat) : Int) + ((2 * j : Nat) : Int) = (p : Nat) by omega)
 have HQ1 := Lib.hid (show -9223372036854775808 ≤ ((2 * j : Nat) : Int) ∧ ((2 * j : Nat) : Int) ≤ 9223372036854775807 by omega)
 have HT1 := Lib.hid (show -9223372036854775808 ≤ ((p : Nat) : Int) ∧ ((p : Nat) : Int) ≤ 9223372036854775807 by omega)
 have hpl : p + 2 ≤ l.length := by omega
 have HPL := Lib.hid hpl
 have HB0 := Lib.hid ((Below.refl w.heap.size w).alloc (Nat.le_refl _) (.cells #[v] 26))
 have HY := Lib.hid hy
 have hy2 : y < 65536 := by rw [← hy]; exact numAt_lt l p 2
 have hyw : IntKind.i64.wrap ((y : Nat) : Int) = (y : Nat) := IntWalk.i64_in _ (by omega)
 obtain ⟨va, vc, rfl, _⟩ := hv.shape
 clear hN hsz hfit hL hv hj hi hpl hok hy hp hjn
 go_enter Tryz.func31, Tryz.ntmps31
 go_wp2_with fail
 refine (ringFault_any _ _ _ HMX.out _ _ _ HF.out _).mono ?_
 rintro e w1 ⟨rfl, hb⟩
 have hr0 := row_keep (heap_alloc_new w (.cells #[.slice va l.length vc] 26)) hb
 have HB1 := Lib.hid (HB0.out.trans (hb.mono (by simp)))
 obtain ⟨c1, f1⟩ := one_cell hr0
 clear hb hr0 f1
 go_wp2_with fail
 go_region_held3 (fun W => W.cell? ⟨w.heap.size, 0, none⟩ = some (.slice va l.length vc)) (first | (with_reducible assumption) | go_keep) (first
  | (go_at_call 62; refine (availPart_any B N _ _ rfl rfl HB8.out HN.out.2 _).mono ?_; rintro e w2 ⟨a, b, rfl, hr2, hb2⟩; have c2 := kept (w := w1.drew) c1 hb2; have HR2 := Lib.hid hr2; clear hr2)
  | (go_at_call 66; refine (place_any _ _ 2 _ _ a b N at_ j HJ.out HN.out HI.out HQ.out HT.out HQ1.out HT1.out _ HR2.out).mono ?_; rintro e w3 ⟨rfl, hb3⟩; have c3 := kept c2 hb3)
  | (go_at_call 65; refine (getter_any _ l p _ (((HV.out.below (HB1.out.drew)).below hb2).below hb3)).mono ?_; rintro e w4 ⟨ga, gb, rfl, hg, ha0, hb0, hb4⟩; have c4 := kept c3 hb4; have HG4 := Lib.hid hg; clear hg))
 have hbw3 : Below w.heap.size w w3 := (HB1.out.drew.trans (hb2.mono HB1.out.drew.size)).trans (hb3.mono (HB1.out.drew.trans (hb2.mono HB1.out.drew.size)).size)
 have hbw : Below w.heap.size w w4 := hbw3.trans (hb4.mono hbw3.size)
 have HGB := Lib.hid (show w.heap.size ≤ gb from Nat.le_trans hbw3.size hb0)
 have HBW := Lib.hid hbw
 clear hbw hbw3 hb2 hb3 hb4 c1 c2 c3 c4 ha0 hb0
 go_wp2_with fail
 refine (get_num ga gb _ l p 2 (p + 2) rfl HL.out HPL.out (by decide) (by decide) _ (HV.out.below HBW.out) HG4.out).mono ?_
 rintro e w5 ⟨rfl, hg, hs⟩
 rw [HY.out]
 have HB5 := Lib.hid (hs.below HBW.out HGB.out HBW.out.size)
 clear hg hs
 go_wp2
 go_ret2
 exact ⟨rfl, HB5.out⟩
set_option maxHeartbeats 4000000 in
set_option maxRecDepth 100000 in
theorem usedAt_in (v : Value) (l : List UInt8) (w : World) (hv : IsArg w v l) (B N at_ p : Nat) (hok : RingOk l.length B N) (hi : at_ < 65536) (hp : B + secN N + 4 + 8 * (at_ % N) = p) (x0 x1 : Nat) (h0 : numAt l p 4 = x0) (h1 : numAt l (p + 4) 4 = x1) :
 Calls Tryz.prog 75 #[.agg #[v], .int .i64 (B : Nat), .int .i64 (N : Nat), .int .u16 (at_ : Nat)] w fun e w' => e = .returned (.tuple #[.agg #[.int .u32 (x0 : Nat), .int .u32 (x1 : Nat)], .int .i64 0]) ∧ Below w.heap.size w w' := by
 have hN := hok.right.le
 have hsz := sizeN_le N
 have hfit := hok.fits
 have hL := hok.few
 have HL := Lib.hid hL
 have HB8 := Lib.hid (show B ≤ 8192 by omega)
 have HN := Lib.hid hN
 have HMX := Lib.hid (show l.length ≤ maxLen by unfold maxLen; omega)
 have HF := Lib.hid (show ringF l.length (B : Int) (N : Int) = 0 by rw [ringF, if_pos hok.ok])
 have HV := Lib.hid hv
 obtain ⟨j, hj⟩ : ∃ j, at_ % N = j := ⟨_, rfl⟩
 have hjn : j < N := by rw [← hj]; exact Nat.mod_lt _ (by omega)
 rw [hj] at hp
 have HJ := Lib.hid hj
 have HI := Lib.hid hi
 have HQ := Lib.hid (show ((j : Nat) : Int) * 8 = ((8 * j : Nat) : Int) by omega)
 have HT := Lib.hid (show ((B + secN N + 4 : Nat) : Int) + ((8 * j : Nat) : Int) = (p : Nat) by omega)
 have HQ1 := Lib.hid (show -9223372036854775808 ≤ ((8 * j : Nat) : Int) ∧ ((8 * j : Nat) : Int) ≤ 9223372036854775807 by omega)
 have HT1 := Lib.hid (show -9223372036854775808 ≤ ((p : Nat) : Int) ∧ ((p : Nat) : Int) ≤ 9223372036854775807 by omega)
 have hpl : p + 8 ≤ l.length := by omega
 have HPL := Lib.hid hpl
 have HB0 := Lib.hid (((Below.refl w.heap.size w).alloc (Nat.le_refl _) (.cells #[v] 26)).alloc (by simp) (.cells #[.int .u32 0, .int .u32 0] 53))
 have H0 := Lib.hid h0
 have H1 := Lib.hid h1
 have hx0 : x0 < 4294967296 := by rw [← h0]; exact numAt_lt l p 4
 have hx1 : x1 < 4294967296 := by rw [← h1]; exact numAt_lt l (p + 4) 4
 have hyw0 : IntKind.u32.wrap ((x0 : Nat) : Int) = (x0 : Nat) := IntWalk.u32_in _ (by omega)
 have hyw1 : IntKind.u32.wrap ((x1 : Nat) : Int) = (x1 : Nat) := IntWalk.u32_in _ (by omega)
 obtain ⟨va, vc, rfl, _⟩ := hv.shape
 clear hN hsz hfit hL hv hj hi hpl hok h0 h1 hp hjn
 go_enter Tryz.func75, Tryz.ntmps75
 go_wp2_with fail
 refine (ringFault_any _ _ _ HMX.out _ _ _ HF.out _).mono ?_
 rintro e w1 ⟨rfl, hb⟩
 have hr0 := row_keep (row_keep (heap_alloc_new w (.cells #[.slice va l.length vc] 26)) ((Below.refl _ _).alloc (Nat.le_refl _) (.cells #[.int .u32 0, .int .u32 0] 53))) hb
 have hr1 := row_keep (heap_alloc_new (w.alloc (.cells #[.slice va l.length vc] 26)) (.cells #[.int .u32 0, .int .u32 0] 53)) hb
 have HB1 := Lib.hid (HB0.out.trans (hb.mono (by simp; omega)))
 have HR1 := Lib.hid (show w1.heap[w.heap.size + 1]? = some (.cells #[.int .u32 0, .int .u32 0] 53) by simpa using hr1)
 obtain ⟨c1, f1⟩ := one_cell hr0
 clear hb hr0 hr1 f1
 go_wp2_with fail
 go_region_held3 (fun W => W.cell? ⟨w.heap.size, 0, none⟩ = some (.slice va l.length vc)) (first | (with_reducible assumption) | go_keep) (first
  | (go_at_call 54; refine (usedPart_any B N _ _ rfl rfl HB8.out HN.out.2 _).mono ?_; rintro e w2 ⟨a, b, rfl, hr2, hb2⟩; have c2 := kept (w := w1.drew) c1 hb2; have HR2 := Lib.hid hr2; clear hr2)
  | (go_at_call 66; refine (place_any _ _ 8 _ _ a b N at_ j HJ.out HN.out HI.out HQ.out HT.out HQ1.out HT1.out _ HR2.out).mono ?_; rintro e w3 ⟨rfl, hb3⟩; have c3 := kept c2 hb3)
  | (go_at_call 65; refine (getter_any _ l p _ (((HV.out.below (HB1.out.drew)).below hb2).below hb3)).mono ?_; rintro e w4 ⟨ga, gb, rfl, hg, ha0, hb0, hb4⟩; have c4 := kept c3 hb4; have HG4 := Lib.hid hg; clear hg))
 have hbw3 : Below w.heap.size w w3 := (HB1.out.drew.trans (hb2.mono HB1.out.drew.size)).trans (hb3.mono (HB1.out.drew.trans (hb2.mono HB1.out.drew.size)).size)
 have hbw : Below w.heap.size w w4 := hbw3.trans (hb4.mono hbw3.size)
 have hr4 := row_keep (row_keep (row_keep (w := w1.drew) HR1.out hb2) hb3) hb4
 have hz : w.heap.size + 1 < w4.heap.size := (Array.getElem?_eq_some_iff.1 hr4).1
 have hgb : w.heap.size ≤ gb := Nat.le_trans hbw3.size hb0
 have HG := Lib.hid (show GSt w ga gb w4.heap.size (w.heap.size + 1) (.slice va l.length vc) p #[.int .u32 0, .int .u32 0] #[.int .u32 0, .int .u32 0] 53 (w4.alloc (.cells #[.int .u32 0, .int .u32 0] 53)) from
  { out := hbw.alloc hbw.size _, lo := ⟨hgb, hbw.size⟩, ne := by omega, ti := tneUI, tm := tneUM, get := HG4.out.below ((Below.refl _ _).alloc (Nat.le_refl _) _), box := heap_alloc_new w4 _, res := row_keep hr4 ((Below.refl _ _).alloc (Nat.le_refl _) _) })
 have hne1 : w4.heap.size ≠ w.heap.size + 1 := by omega
 have hne2 : w.heap.size + 1 ≠ w4.heap.size := by omega
 clear hbw hbw3 hr4 hz hgb hb2 hb3 hb4 c1 c2 c3 c4 ha0 hb0
 go_wp2_with fail
 refine (get_num ga gb _ l p 4 (p + 4) (by omega) HL.out (by have := HPL.out; omega) (by decide) (by decide) _ (HV.out.below HG.out.out) HG.out.get).mono ?_
 rintro e w5 ⟨rfl, hg, hs⟩
 rw [H0.out]
 replace HG := Lib.hid (HG.out.call hg hs)
 obtain ⟨d0, f0⟩ := at_cell HG.out.box 0 _ rfl
 clear hg hs
 replace HG := Lib.hid (HG.out.store 0 (.int .u32 (x0 : Nat)))
 go_wp2_with fail
 refine (get_num ga gb _ l (p + 4) 4 (p + 8) (by omega) HL.out (by have := HPL.out; omega) (by decide) (by decide) _ (HV.out.below HG.out.out) HG.out.get).mono ?_
 rintro e w6 ⟨rfl, hg, hs⟩
 rw [H1.out]
 replace HG := Lib.hid (HG.out.call hg hs)
 obtain ⟨d1, f1⟩ := at_cell HG.out.box 1 _ rfl
 clear hg hs
 clear d0 f0
 obtain ⟨e0, _⟩ := at_cell HG.out.box 0 _ rfl
 obtain ⟨r0, g0⟩ := at_cell HG.out.res 0 _ rfl
 obtain ⟨r1, g1⟩ := at_cell HG.out.res 1 _ rfl
 go_wp2
 refine bodyPost_ret (v := .tuple #[.agg #[.int .u32 (x0 : Nat), .int .u32 (x1 : Nat)], .int .i64 0]) (by simp [results, Tryz.results75, go_sem, r0, r1]) rfl ⟨rfl, ?_⟩
 exact ((HG.out.out.setCell HG.out.lo.2 _).setCell (by simp) _).setCell (by simp) _
end Go.Proofs.YtnmekbbnglkmcaaGreat
namespace Go.Proofs.YtnmekbbnglkmcaaGreat
open Go.RowKit Go.Lib
set_option maxHeartbeats 1000000 in
theorem availAt_out (a : Option Addr) (n c : Nat) (hn : n ≤ maxLen) (b z : Int) (k : Nat) (h : ringF n b z = 70) (w : World) :
 Calls Tryz.prog 31 #[.agg #[.slice a n c], .int .i64 b, .int .i64 z, .int .u16 (k : Nat)] w fun e w' => e = .returned (.tuple #[.int .i64 0, .int .i64 70]) ∧ Below w.heap.size w w' := by
 have HB0 := Lib.hid ((Below.refl w.heap.size w).alloc (Nat.le_refl _) (.cells #[.slice a n c] 26))
 have HN := Lib.hid hn
 have H := Lib.hid h
 clear hn h
 go_enter Tryz.func31, Tryz.ntmps31
 go_wp2_with fail
 refine (ringFault_any _ _ _ HN.out _ _ _ H.out _).mono ?_
 rintro e w1 ⟨rfl, hb⟩
 have HB1 := Lib.hid (HB0.out.trans (hb.mono (by simp)))
 clear hb
 go_wp2
 go_ret2
 exact ⟨rfl, HB1.out⟩
set_option maxHeartbeats 1000000 in
theorem usedAt_out (a : Option Addr) (n c : Nat) (hn : n ≤ maxLen) (b z : Int) (k : Nat) (h : ringF n b z = 70) (w : World) :
 Calls Tryz.prog 75 #[.agg #[.slice a n c], .int .i64 b, .int .i64 z, .int .u16 (k : Nat)] w fun e w' => e = .returned (.tuple #[.agg #[.int .u32 0, .int .u32 0], .int .i64 70]) ∧ Below w.heap.size w w' := by
 have HB0 := Lib.hid (((Below.refl w.heap.size w).alloc (Nat.le_refl _) (.cells #[.slice a n c] 26)).alloc (by simp) (.cells #[.int .u32 0, .int .u32 0] 53))
 have HN := Lib.hid hn
 have H := Lib.hid h
 clear hn h
 go_enter Tryz.func75, Tryz.ntmps75
 go_wp2_with fail
 refine (ringFault_any _ _ _ HN.out _ _ _ H.out _).mono ?_
 rintro e w1 ⟨rfl, hb⟩
 have hr1 := row_keep (heap_alloc_new (w.alloc (.cells #[.slice a n c] 26)) (.cells #[.int .u32 0, .int .u32 0] 53)) hb
 have HR1 := Lib.hid (show w1.heap[w.heap.size + 1]? = some (.cells #[.int .u32 0, .int .u32 0] 53) by simpa using hr1)
 have HB1 := Lib.hid (HB0.out.trans (hb.mono (by simp; omega)))
 obtain ⟨r0, g0⟩ := at_cell HR1.out 0 _ rfl
 obtain ⟨r1, g1⟩ := at_cell HR1.out 1 _ rfl
 clear hb hr1
 go_wp2
 refine bodyPost_ret (v := .tuple #[.agg #[.int .u32 0, .int .u32 0], .int .i64 70]) (by simp [results, Tryz.results75, go_sem, r0, r1]) rfl ⟨rfl, ?_⟩
 exact (HB1.out.setCell (by simp) _).setCell (by simp) _
theorem ringF_two {L : Nat} {b z : Int} (h : ringF L b z ≠ 0) : ringF L b z = 70 := by
 rcases ring_cases L b z with ⟨_, h1⟩ | ⟨_, _, _, _, _, h1⟩
 · exact h1
 · exact absurd h1 h
theorem ring_in {L : Nat} {b z : Int} (h : ringF L b z = 0) : ∃ B N : Nat, b = B ∧ z = N ∧ RingOk L B N := by
 rcases ring_cases L b z with ⟨_, h1⟩ | ⟨B, N, h2, h3, h4, _⟩
 · omega
 · exact ⟨B, N, h2, h3, h4⟩
theorem availAt_any (v : Value) (l : List UInt8) (b z : Int) (k : Nat) (hk : k < 65536) (F : Int) (y : Nat) (hF : ringF l.length b z = F) (hy : availAtX l b z k = y) (hl : l.length ≤ maxLen) (w : World) (hv : IsArg w v l) :
 Calls Tryz.prog 31 #[.agg #[v], .int .i64 b, .int .i64 z, .int .u16 (k : Nat)] w fun e w' => e = .returned (.tuple #[.int .i64 (y : Nat), .int .i64 F]) ∧ Below w.heap.size w w' := by
 by_cases h0 : F = 0
 · subst h0
   obtain ⟨B, N, rfl, rfl, hok⟩ := ring_in hF
   rw [availAtX, if_pos hF, Int.toNat_natCast, Int.toNat_natCast] at hy
   exact availAt_in v l w hv B N k _ hok hk rfl y hy
 · have h7 := ringF_two (by rw [hF]; exact h0)
   obtain rfl : F = 70 := by omega
   rw [availAtX, if_neg (by rw [h7]; decide)] at hy
   subst hy
   obtain ⟨a, c, rfl, _⟩ := hv.shape
   exact availAt_out a l.length c hl b z k h7 w
theorem usedAt_any (v : Value) (l : List UInt8) (b z : Int) (k : Nat) (hk : k < 65536) (F : Int) (x0 x1 : Nat) (hF : ringF l.length b z = F) (h0 : usedAtX l b z k 0 = x0) (h1 : usedAtX l b z k 4 = x1) (hl : l.length ≤ maxLen) (w : World) (hv : IsArg w v l) :
 Calls Tryz.prog 75 #[.agg #[v], .int .i64 b, .int .i64 z, .int .u16 (k : Nat)] w fun e w' => e = .returned (.tuple #[.agg #[.int .u32 (x0 : Nat), .int .u32 (x1 : Nat)], .int .i64 F]) ∧ Below w.heap.size w w' := by
 by_cases hz : F = 0
 · subst hz
   obtain ⟨B, N, rfl, rfl, hok⟩ := ring_in hF
   rw [usedAtX, if_pos hF, Int.toNat_natCast, Int.toNat_natCast] at h0 h1
   exact usedAt_in v l w hv B N k _ hok hk rfl x0 x1 h0 h1
 · have h7 := ringF_two (by rw [hF]; exact hz)
   obtain rfl : F = 70 := by omega
   rw [usedAtX, if_neg (by rw [h7]; decide)] at h0 h1
   subst h0
   subst h1
   obtain ⟨a, c, rfl, _⟩ := hv.shape
   exact usedAt_out a l.length c hl b z k h7 w
set_option maxHeartbeats 1000000 in
theorem index_out_avail (a : Option Addr) (n c : Nat) (hn : n ≤ maxLen) (b z : Int) (h : ringF n b z = 70) (w : World) :
 Calls Tryz.prog 64 #[.agg #[.slice a n c], .int .i64 b, .int .i64 z, .func (.func 62) #[] #[]] w fun e w' => e = .returned (.tuple #[.int .u16 0, .int .i64 70]) ∧ Below w.heap.size w w' := by
 have HB0 := Lib.hid ((Below.refl w.heap.size w).alloc (Nat.le_refl _) (.cells #[.slice a n c] 26))
 have HN := Lib.hid hn
 have H := Lib.hid h
 clear hn h
 go_enter Tryz.func64, Tryz.ntmps64
 go_wp2_with fail
 refine (ringFault_any _ _ _ HN.out _ _ _ H.out _).mono ?_
 rintro e w1 ⟨rfl, hb⟩
 have HB1 := Lib.hid (HB0.out.trans (hb.mono (by simp)))
 clear hb
 go_wp2
 go_ret2
 exact ⟨rfl, HB1.out⟩
structure RngAvailX where
 (b0 b1 b2 b3 b4 b5 b6 b7 b8 b9 b10 : Bool)
 (s18 s19 s20 s21 s22 s23 s24 s25 s26 s8 s9 : Value)
set_option maxHeartbeats 4000000 in
set_option maxRecDepth 100000 in
theorem index_in_avail (v : Value) (l : List UInt8) (w : World) (hv : IsArg w v l) (B N p : Nat) (hok : RingOk l.length B N) (hp : B + 16 * N + 2 = p) (y : Nat) (hy : numAt l p 2 = y) :
 Calls Tryz.prog 64 #[.agg #[v], .int .i64 (B : Nat), .int .i64 (N : Nat), .func (.func 62) #[] #[]] w fun e w' => e = .returned (.tuple #[.int .u16 (y : Nat), .int .i64 0]) ∧ Below w.heap.size w w' := by
 have hN := hok.right.le
 have hsz := sizeN_le N
 have hfit := hok.fits
 have hL := hok.few
 have HL := Lib.hid hL
 have HB8 := Lib.hid (show B ≤ 8192 by omega)
 have HN := Lib.hid hN
 have HMX := Lib.hid (show l.length ≤ maxLen by unfold maxLen; omega)
 have HF := Lib.hid (show ringF l.length (B : Int) (N : Int) = 0 by rw [ringF, if_pos hok.ok])
 have HV := Lib.hid hv
 have hpl : p + 2 ≤ l.length := by omega
 have HP := Lib.hid (show ∀ W, Calls Tryz.prog 62 #[.int .i64 (B : Nat), .int .i64 (N : Nat)] W fun e w' => ∃ a b, e = .returned (.agg #[.int .i64 (p : Nat), .func (.func 116) #[] #[.pointer (some ⟨a, 0, none⟩), .pointer (some ⟨b, 0, none⟩)]]) ∧ RowAt w' a b (B + 16 * N + 4 : Nat) 2 ∧ Below W.heap.size W w' from fun W => availPart_any B N p _ hp rfl (by omega) hN.2 W)
 have hy2 : y < 65536 := by rw [← hy]; exact numAt_lt l p 2
 have hyw : IntKind.u16.wrap ((y : Nat) : Int) = (y : Nat) := IntWalk.u16_in _ (by omega)
 have HB0 := Lib.hid ((Below.refl w.heap.size w).alloc (Nat.le_refl _) (.cells #[v] 26))
 have HPL := Lib.hid hpl
 have HY := Lib.hid hy
 obtain ⟨va, vc, rfl, _⟩ := hv.shape
 clear hN hsz hfit hL hv hpl hok hy hp
 go_enter Tryz.func64, Tryz.ntmps64
 go_wp2_with fail
 refine (ringFault_any _ _ _ HMX.out _ _ _ HF.out _).mono ?_
 rintro e w1 ⟨rfl, hb⟩
 have hr0 := row_keep (heap_alloc_new w (.cells #[.slice va l.length vc] 26)) hb
 have HB1 := Lib.hid (HB0.out.trans (hb.mono (by simp)))
 have HM := Lib.hid (show ∀ W, Below w1.heap.size w1 W → W.cell? ⟨w.heap.size, 0, none⟩ = some (.slice va l.length vc) ∧ W.frozen? ⟨w.heap.size, 0, none⟩ = false from fun W h => one_cell (row_keep hr0 h))
 have HG := Lib.hid (show ∀ W, Below w1.heap.size w1 W → Calls Tryz.prog 65 #[.agg #[.slice va l.length vc], .int .i64 (p : Nat)] W fun e w' => ∃ a b, e = .returned (.func (.func 89) #[] #[.pointer (some ⟨a, 0, none⟩), .pointer (some ⟨b, 0, none⟩)]) ∧ GetAt w' a b (.slice va l.length vc) p ∧ W.heap.size ≤ a ∧ W.heap.size ≤ b ∧ Below W.heap.size W w' from fun W h => getter_any _ l p W (HV.out.below (HB1.out.trans (h.mono HB1.out.size))))
 have HN2 := Lib.hid (show ∀ W, Below w1.heap.size w1 W → ∀ ga gb, GetAt W ga gb (.slice va l.length vc) p → Calls Tryz.prog 89 #[.int .i64 2, .pointer (some ⟨ga, 0, none⟩), .pointer (some ⟨gb, 0, none⟩)] W fun e w' => e = .returned (.int .u64 (y : Nat)) ∧ Save1 W w' gb from fun W h ga gb hg => (get_num ga gb _ l p 2 (p + 2) rfl HL.out HPL.out (by decide) (by decide) W (HV.out.below (HB1.out.trans (h.mono HB1.out.size))) hg).mono fun e w' ⟨h1, _, h3⟩ => by rw [HY.out] at h1; exact ⟨h1, h3⟩)
 clear hb hr0
 go_wp2_with fail
 refine wp_region_rec (X := RngAvailX) (by kernel_rfl) (by kernel_rfl) (fun x => #[x.b0, x.b1, x.b2, x.b3, x.b4, x.b5, x.b6, x.b7, x.b8, x.b9, x.b10]) (fun x => { tmps := #[.agg #[.slice va l.length vc], .int .i64 (B : Nat), .int .i64 (N : Nat), .func (.func 62) #[] #[], .pointer (some ⟨w.heap.size, 0, none⟩), undef, undef, undef, x.s8, x.s9, .int .i64 0, .agg #[.slice va l.length vc], .int .i64 (B : Nat), .int .i64 (N : Nat), .int .i64 0, .int .i64 0, .bool false, undef, x.s18, x.s19, x.s20, x.s21, x.s22, x.s23, x.s24, x.s25, x.s26], defers := [] }) (fun x W => (x.b0 = true → x.s18 = .agg #[.slice va l.length vc]) ∧ (x.b1 = true → x.s19 = .func (.func 62) #[] #[]) ∧ (x.b2 = true → x.s20 = .int .i64 (B : Nat)) ∧ (x.b3 = true → x.s21 = .int .i64 (N : Nat)) ∧ (x.b5 = true → x.s23 = .int .i64 (p : Nat)) ∧ (x.b7 = true → x.s25 = .int .u64 (y : Nat)) ∧ (x.b8 = true → x.s26 = .int .u16 (y : Nat)) ∧ (x.b9 = true → x.s8 = .int .u16 (y : Nat)) ∧ (x.b10 = true → x.s9 = .int .i64 0) ∧ (x.b4 = true → ∃ a b, x.s22 = .agg #[.int .i64 (p : Nat), .func (.func 116) #[] #[.pointer (some ⟨a, 0, none⟩), .pointer (some ⟨b, 0, none⟩)]]) ∧ (x.b7 = false → x.b6 = true → ∃ ga gb, x.s24 = .func (.func 89) #[] #[.pointer (some ⟨ga, 0, none⟩), .pointer (some ⟨gb, 0, none⟩)] ∧ GetAt W ga gb (.slice va l.length vc) p ∧ w1.heap.size ≤ gb) ∧ (Below w1.heap.size w1 W)) ⟨false, false, false, false, false, false, false, false, false, false, false, undef, undef, undef, undef, undef, undef, undef, undef, undef, .int .u16 0, .int .i64 0⟩ rfl rfl ⟨(fun h => by cases h), (fun h => by cases h), (fun h => by cases h), (fun h => by cases h), (fun h => by cases h), (fun h => by cases h), (fun h => by cases h), (fun h => by cases h), (fun h => by cases h), (fun h => by cases h), (fun _ h => by cases h), (Below.refl _ _).drew⟩ (fun _ => rfl) ?hstep ?hdone
 case hstep =>
  rintro ⟨b0, b1, b2, b3, b4, b5, b6, b7, b8, b9, b10, s18, s19, s20, s21, s22, s23, s24, s25, s26, s8, s9⟩ W hI i hi
  dsimp only at hI hi ⊢
  have HI := Lib.hid hI
  clear hI
  rw [Region.ready, List.mem_filter, List.mem_range] at hi
  obtain ⟨hlt, hp⟩ := hi
  have hi7 : i = 0 ∨ i = 1 ∨ i = 2 ∨ i = 3 ∨ i = 4 ∨ i = 5 ∨ i = 6 ∨ i = 7 ∨ i = 8 ∨ i = 9 ∨ i = 10 := by simp at hlt; omega
  clear hlt
  rcases hi7 with rfl | rfl | rfl | rfl | rfl | rfl | rfl | rfl | rfl | rfl | rfl
  all_goals simp [Region.binds] at hp
  · obtain rfl : b0 = false := by revert hp; cases b0 <;> simp
    clear hp
    refine inv_op (o := ⟨some 18, _, _, _, _, _⟩) rfl (fun K' hK' => ?_)
    have gW := HI.out.2.2.2.2.2.2.2.2.2.2.2
    obtain ⟨hc1, hc2⟩ := HM.out W gW
    go_simp
    exact hK'.out _ _ ⟨.mk .., rfl, rfl, (Upd (fun _ => rfl)) HI.out⟩
  · obtain rfl : b1 = false := by revert hp; cases b1 <;> simp
    clear hp
    refine inv_op (o := ⟨some 19, _, _, _, _, _⟩) rfl (fun K' hK' => ?_)
    go_simp
    exact hK'.out _ _ ⟨.mk .., rfl, rfl, Nxt (Upd (fun _ => rfl)) HI.out⟩
  · obtain rfl : b2 = false := by revert hp; cases b2 <;> simp
    clear hp
    refine inv_op (o := ⟨some 20, _, _, _, _, _⟩) rfl (fun K' hK' => ?_)
    go_simp
    exact hK'.out _ _ ⟨.mk .., rfl, rfl, Nxt (Nxt (Upd (fun _ => rfl))) HI.out⟩
  · obtain rfl : b3 = false := by revert hp; cases b3 <;> simp
    clear hp
    refine inv_op (o := ⟨some 21, _, _, _, _, _⟩) rfl (fun K' hK' => ?_)
    go_simp
    exact hK'.out _ _ ⟨.mk .., rfl, rfl, Nxt (Nxt (Nxt (Upd (fun _ => rfl)))) HI.out⟩
  · have hn4 : b4 = false := by revert hp; cases b4 <;> simp
    have e1 : b1 = true := by revert hp; cases b1 <;> simp
    have e2 : b2 = true := by revert hp; cases b2 <;> simp
    have e3 : b3 = true := by revert hp; cases b3 <;> simp
    clear hp
    obtain rfl := (HI.out.2.1) e1
    obtain rfl := (HI.out.2.2.1) e2
    obtain rfl := (HI.out.2.2.2.1) e3
    subst hn4
    refine inv_op (o := ⟨some 22, _, _, _, _, _⟩) rfl (fun K' hK' => ?_)
    go_simp
    refine (HP.out W).mono ?_
    rintro e w2 ⟨a, b, rfl, hr, bn⟩
    obtain ⟨h0, h1, h2, h3, h5, h7, h8, h9, h10, gR, gG, gW⟩ := HI.out
    exact hK'.out _ _ ⟨.mk .., rfl, rfl, h0, h1, h2, h3, h5, h7, h8, h9, h10, (fun _ => ⟨a, b, rfl⟩), (fun e7 e6 => by obtain ⟨ga, gb, h1, h2, h3⟩ := gG e7 e6; exact ⟨ga, gb, h1, h2.below bn, h3⟩), (gW.trans (bn.mono gW.size))⟩
  · obtain ⟨rfl, e4⟩ : b5 = false ∧ b4 = true := by revert hp; cases b5 <;> cases b4 <;> simp
    clear hp
    refine inv_op (o := ⟨some 23, _, _, _, _, _⟩) rfl (fun K' hK' => ?_)
    have gR := HI.out.2.2.2.2.2.2.2.2.2.1
    obtain ⟨a, b, rfl⟩ := gR e4
    have hfi := field_index
    go_simp
    exact hK'.out _ _ ⟨.mk .., rfl, rfl, Nx4 (Upd (fun _ => rfl)) HI.out⟩
  · obtain ⟨rfl, e0, e5⟩ : b6 = false ∧ b0 = true ∧ b5 = true := by revert hp; cases b6 <;> cases b0 <;> cases b5 <;> simp
    clear hp
    obtain rfl := (HI.out.1) e0
    obtain rfl := (HI.out.2.2.2.2.1) e5
    refine inv_op (o := ⟨some 24, _, _, _, _, _⟩) rfl (fun K' hK' => ?_)
    have gW := HI.out.2.2.2.2.2.2.2.2.2.2.2
    go_simp
    refine (HG.out W gW).mono ?_
    rintro e w2 ⟨ga, gb, rfl, hg, h1, hb, bn⟩
    obtain ⟨h0, h1, h2, h3, h5, h7, h8, h9, h10, gR, gG, gW⟩ := HI.out
    exact hK'.out _ _ ⟨.mk .., rfl, rfl, h0, h1, h2, h3, h5, h7, h8, h9, h10, gR, (fun _ _ => ⟨ga, gb, rfl, hg, Nat.le_trans gW.size hb⟩), (gW.trans (bn.mono gW.size))⟩
  · obtain ⟨rfl, e6⟩ : b7 = false ∧ b6 = true := by revert hp; cases b7 <;> cases b6 <;> simp
    clear hp
    refine inv_op (o := ⟨some 25, _, _, _, _, _⟩) rfl (fun K' hK' => ?_)
    have gG := HI.out.2.2.2.2.2.2.2.2.2.2.1
    have gW := HI.out.2.2.2.2.2.2.2.2.2.2.2
    obtain ⟨ga, gb, rfl, hg, hb⟩ := gG rfl e6
    go_simp
    refine (HN2.out W gW ga gb hg).mono ?_
    rintro e w2 ⟨rfl, hs⟩
    obtain ⟨h0, h1, h2, h3, h5, h7, h8, h9, h10, gR, gG, gW⟩ := HI.out
    exact hK'.out _ _ ⟨.mk .., rfl, rfl, h0, h1, h2, h3, h5, (fun _ => rfl), h8, h9, h10, gR, (fun e => by cases e), (hs.below gW hb gW.size)⟩
  · obtain ⟨rfl, e7⟩ : b8 = false ∧ b7 = true := by revert hp; cases b8 <;> cases b7 <;> simp
    clear hp
    obtain rfl := (HI.out.2.2.2.2.2.1) e7
    refine inv_op (o := ⟨some 26, _, _, _, _, _⟩) rfl (fun K' hK' => ?_)
    go_simp
    exact hK'.out _ _ ⟨.mk .., rfl, rfl, Nxt (Nxt (Nx4 (Upd (fun _ => rfl)))) HI.out⟩
  · obtain ⟨rfl, e8⟩ : b9 = false ∧ b8 = true := by revert hp; cases b9 <;> cases b8 <;> simp
    clear hp
    obtain rfl := (HI.out.2.2.2.2.2.2.1) e8
    refine inv_op (o := ⟨some 8, _, _, _, _, _⟩) rfl (fun K' hK' => ?_)
    go_simp
    exact hK'.out _ _ ⟨.mk .., rfl, rfl, Nxt (Nxt (Nxt (Nx4 (Upd (fun _ => rfl))))) HI.out⟩
  · obtain rfl : b10 = false := by revert hp; cases b10 <;> simp
    clear hp
    refine inv_op (o := ⟨some 9, _, _, _, _, _⟩) rfl (fun K' hK' => ?_)
    go_simp
    exact hK'.out _ _ ⟨.mk .., rfl, rfl, Nx4 (Nx4 (Upd (fun _ => rfl))) HI.out⟩
 case hdone =>
  rintro ⟨b0, b1, b2, b3, b4, b5, b6, b7, b8, b9, b10, s18, s19, s20, s21, s22, s23, s24, s25, s26, s8, s9⟩ W hI hall
  dsimp only at hI hall ⊢
  have HI := Lib.hid hI
  clear hI
  obtain rfl : b0 = true := hall 0 (by decide)
  obtain rfl : b1 = true := hall 1 (by decide)
  obtain rfl : b2 = true := hall 2 (by decide)
  obtain rfl : b3 = true := hall 3 (by decide)
  obtain rfl : b4 = true := hall 4 (by decide)
  obtain rfl : b5 = true := hall 5 (by decide)
  obtain rfl : b6 = true := hall 6 (by decide)
  obtain rfl : b7 = true := hall 7 (by decide)
  obtain rfl : b8 = true := hall 8 (by decide)
  obtain rfl : b9 = true := hall 9 (by decide)
  obtain rfl : b10 = true := hall 10 (by decide)
  obtain rfl := (HI.out.2.2.2.2.2.2.2.1) rfl
  obtain rfl := (HI.out.2.2.2.2.2.2.2.2.1) rfl
  have gW := HI.out.2.2.2.2.2.2.2.2.2.2.2
  clear HI hall
  have HW := Lib.hid (HB1.out.trans (gW.mono HB1.out.size))
  clear gW
  go_wp2
  go_ret2
  exact ⟨rfl, HW.out⟩
theorem avail_any (v : Value) (l : List UInt8) (b z : Int) (F : Int) (y : Nat) (hF : ringF l.length b z = F) (hy : availX l b z = y) (hl : l.length ≤ maxLen) (w : World) (hv : IsArg w v l) :
 Calls Tryz.prog 30 #[.agg #[v], .int .i64 b, .int .i64 z] w fun e w' => e = .returned (.tuple #[.int .u16 (y : Nat), .int .i64 F]) ∧ Below w.heap.size w w' := by
 have HX := Lib.hid (show ∀ W, IsArg W v l → Calls Tryz.prog 64 #[.agg #[v], .int .i64 b, .int .i64 z, .func (.func 62) #[] #[]] W fun e w' => e = .returned (.tuple #[.int .u16 (y : Nat), .int .i64 F]) ∧ Below W.heap.size W w' from by
  intro W hW
  by_cases h0 : F = 0
  · subst h0
    obtain ⟨B, N, rfl, rfl, hok⟩ := ring_in hF
    rw [availX, if_pos hF, Int.toNat_natCast, Int.toNat_natCast] at hy
    exact index_in_avail v l W hW B N _ hok rfl y hy
  · have h7 := ringF_two (by rw [hF]; exact h0)
    obtain rfl : F = 70 := by omega
    rw [availX, if_neg (by rw [h7]; decide)] at hy
    subst hy
    obtain ⟨a, c, rfl, _⟩ := hW.shape
    exact index_out_avail a l.length c hl b z h7 W)
 have HV := Lib.hid hv
 have HB0 := Lib.hid ((Below.refl w.heap.size w).alloc (Nat.le_refl _) (.cells #[v] 26))
 obtain ⟨a, c, rfl, _⟩ := hv.shape
 clear hF hy hl hv
 go_enter Tryz.func30, Tryz.ntmps30
 go_wp2_with fail
 refine (HX.out _ (HV.out.below HB0.out)).mono ?_
 rintro e w1 ⟨rfl, hb⟩
 have HB1 := Lib.hid (HB0.out.trans (hb.mono (by simp)))
 clear hb
 go_wp2
 go_ret2
 exact ⟨rfl, HB1.out⟩
set_option maxHeartbeats 1000000 in
theorem index_out_used (a : Option Addr) (n c : Nat) (hn : n ≤ maxLen) (b z : Int) (h : ringF n b z = 70) (w : World) :
 Calls Tryz.prog 64 #[.agg #[.slice a n c], .int .i64 b, .int .i64 z, .func (.func 54) #[] #[]] w fun e w' => e = .returned (.tuple #[.int .u16 0, .int .i64 70]) ∧ Below w.heap.size w w' := by
 have HB0 := Lib.hid ((Below.refl w.heap.size w).alloc (Nat.le_refl _) (.cells #[.slice a n c] 26))
 have HN := Lib.hid hn
 have H := Lib.hid h
 clear hn h
 go_enter Tryz.func64, Tryz.ntmps64
 go_wp2_with fail
 refine (ringFault_any _ _ _ HN.out _ _ _ H.out _).mono ?_
 rintro e w1 ⟨rfl, hb⟩
 have HB1 := Lib.hid (HB0.out.trans (hb.mono (by simp)))
 clear hb
 go_wp2
 go_ret2
 exact ⟨rfl, HB1.out⟩
structure RngUsedX where
 (b0 b1 b2 b3 b4 b5 b6 b7 b8 b9 b10 : Bool)
 (s18 s19 s20 s21 s22 s23 s24 s25 s26 s8 s9 : Value)
set_option maxHeartbeats 4000000 in
set_option maxRecDepth 100000 in
theorem index_in_used (v : Value) (l : List UInt8) (w : World) (hv : IsArg w v l) (B N p : Nat) (hok : RingOk l.length B N) (hp : B + secN N + 2 = p) (y : Nat) (hy : numAt l p 2 = y) :
 Calls Tryz.prog 64 #[.agg #[v], .int .i64 (B : Nat), .int .i64 (N : Nat), .func (.func 54) #[] #[]] w fun e w' => e = .returned (.tuple #[.int .u16 (y : Nat), .int .i64 0]) ∧ Below w.heap.size w w' := by
 have hN := hok.right.le
 have hsz := sizeN_le N
 have hfit := hok.fits
 have hL := hok.few
 have HL := Lib.hid hL
 have HB8 := Lib.hid (show B ≤ 8192 by omega)
 have HN := Lib.hid hN
 have HMX := Lib.hid (show l.length ≤ maxLen by unfold maxLen; omega)
 have HF := Lib.hid (show ringF l.length (B : Int) (N : Int) = 0 by rw [ringF, if_pos hok.ok])
 have HV := Lib.hid hv
 have hpl : p + 2 ≤ l.length := by omega
 have HP := Lib.hid (show ∀ W, Calls Tryz.prog 54 #[.int .i64 (B : Nat), .int .i64 (N : Nat)] W fun e w' => ∃ a b, e = .returned (.agg #[.int .i64 (p : Nat), .func (.func 116) #[] #[.pointer (some ⟨a, 0, none⟩), .pointer (some ⟨b, 0, none⟩)]]) ∧ RowAt w' a b (B + secN N + 4 : Nat) 8 ∧ Below W.heap.size W w' from fun W => usedPart_any B N p _ hp rfl (by omega) hN.2 W)
 have hy2 : y < 65536 := by rw [← hy]; exact numAt_lt l p 2
 have hyw : IntKind.u16.wrap ((y : Nat) : Int) = (y : Nat) := IntWalk.u16_in _ (by omega)
 have HB0 := Lib.hid ((Below.refl w.heap.size w).alloc (Nat.le_refl _) (.cells #[v] 26))
 have HPL := Lib.hid hpl
 have HY := Lib.hid hy
 obtain ⟨va, vc, rfl, _⟩ := hv.shape
 clear hN hsz hfit hL hv hpl hok hy hp
 go_enter Tryz.func64, Tryz.ntmps64
 go_wp2_with fail
 refine (ringFault_any _ _ _ HMX.out _ _ _ HF.out _).mono ?_
 rintro e w1 ⟨rfl, hb⟩
 have hr0 := row_keep (heap_alloc_new w (.cells #[.slice va l.length vc] 26)) hb
 have HB1 := Lib.hid (HB0.out.trans (hb.mono (by simp)))
 have HM := Lib.hid (show ∀ W, Below w1.heap.size w1 W → W.cell? ⟨w.heap.size, 0, none⟩ = some (.slice va l.length vc) ∧ W.frozen? ⟨w.heap.size, 0, none⟩ = false from fun W h => one_cell (row_keep hr0 h))
 have HG := Lib.hid (show ∀ W, Below w1.heap.size w1 W → Calls Tryz.prog 65 #[.agg #[.slice va l.length vc], .int .i64 (p : Nat)] W fun e w' => ∃ a b, e = .returned (.func (.func 89) #[] #[.pointer (some ⟨a, 0, none⟩), .pointer (some ⟨b, 0, none⟩)]) ∧ GetAt w' a b (.slice va l.length vc) p ∧ W.heap.size ≤ a ∧ W.heap.size ≤ b ∧ Below W.heap.size W w' from fun W h => getter_any _ l p W (HV.out.below (HB1.out.trans (h.mono HB1.out.size))))
 have HN2 := Lib.hid (show ∀ W, Below w1.heap.size w1 W → ∀ ga gb, GetAt W ga gb (.slice va l.length vc) p → Calls Tryz.prog 89 #[.int .i64 2, .pointer (some ⟨ga, 0, none⟩), .pointer (some ⟨gb, 0, none⟩)] W fun e w' => e = .returned (.int .u64 (y : Nat)) ∧ Save1 W w' gb from fun W h ga gb hg => (get_num ga gb _ l p 2 (p + 2) rfl HL.out HPL.out (by decide) (by decide) W (HV.out.below (HB1.out.trans (h.mono HB1.out.size))) hg).mono fun e w' ⟨h1, _, h3⟩ => by rw [HY.out] at h1; exact ⟨h1, h3⟩)
 clear hb hr0
 go_wp2_with fail
 refine wp_region_rec (X := RngUsedX) (by kernel_rfl) (by kernel_rfl) (fun x => #[x.b0, x.b1, x.b2, x.b3, x.b4, x.b5, x.b6, x.b7, x.b8, x.b9, x.b10]) (fun x => { tmps := #[.agg #[.slice va l.length vc], .int .i64 (B : Nat), .int .i64 (N : Nat), .func (.func 54) #[] #[], .pointer (some ⟨w.heap.size, 0, none⟩), undef, undef, undef, x.s8, x.s9, .int .i64 0, .agg #[.slice va l.length vc], .int .i64 (B : Nat), .int .i64 (N : Nat), .int .i64 0, .int .i64 0, .bool false, undef, x.s18, x.s19, x.s20, x.s21, x.s22, x.s23, x.s24, x.s25, x.s26], defers := [] }) (fun x W => (x.b0 = true → x.s18 = .agg #[.slice va l.length vc]) ∧ (x.b1 = true → x.s19 = .func (.func 54) #[] #[]) ∧ (x.b2 = true → x.s20 = .int .i64 (B : Nat)) ∧ (x.b3 = true → x.s21 = .int .i64 (N : Nat)) ∧ (x.b5 = true → x.s23 = .int .i64 (p : Nat)) ∧ (x.b7 = true → x.s25 = .int .u64 (y : Nat)) ∧ (x.b8 = true → x.s26 = .int .u16 (y : Nat)) ∧ (x.b9 = true → x.s8 = .int .u16 (y : Nat)) ∧ (x.b10 = true → x.s9 = .int .i64 0) ∧ (x.b4 = true → ∃ a b, x.s22 = .agg #[.int .i64 (p : Nat), .func (.func 116) #[] #[.pointer (some ⟨a, 0, none⟩), .pointer (some ⟨b, 0, none⟩)]]) ∧ (x.b7 = false → x.b6 = true → ∃ ga gb, x.s24 = .func (.func 89) #[] #[.pointer (some ⟨ga, 0, none⟩), .pointer (some ⟨gb, 0, none⟩)] ∧ GetAt W ga gb (.slice va l.length vc) p ∧ w1.heap.size ≤ gb) ∧ (Below w1.heap.size w1 W)) ⟨false, false, false, false, false, false, false, false, false, false, false, undef, undef, undef, undef, undef, undef, undef, undef, undef, .int .u16 0, .int .i64 0⟩ rfl rfl ⟨(fun h => by cases h), (fun h => by cases h), (fun h => by cases h), (fun h => by cases h), (fun h => by cases h), (fun h => by cases h), (fun h => by cases h), (fun h => by cases h), (fun h => by cases h), (fun h => by cases h), (fun _ h => by cases h), (Below.refl _ _).drew⟩ (fun _ => rfl) ?hstep ?hdone
 case hstep =>
  rintro ⟨b0, b1, b2, b3, b4, b5, b6, b7, b8, b9, b10, s18, s19, s20, s21, s22, s23, s24, s25, s26, s8, s9⟩ W hI i hi
  dsimp only at hI hi ⊢
  have HI := Lib.hid hI
  clear hI
  rw [Region.ready, List.mem_filter, List.mem_range] at hi
  obtain ⟨hlt, hp⟩ := hi
  have hi7 : i = 0 ∨ i = 1 ∨ i = 2 ∨ i = 3 ∨ i = 4 ∨ i = 5 ∨ i = 6 ∨ i = 7 ∨ i = 8 ∨ i = 9 ∨ i = 10 := by simp at hlt; omega
  clear hlt
  rcases hi7 with rfl | rfl | rfl | rfl | rfl | rfl | rfl | rfl | rfl | rfl | rfl
  all_goals simp [Region.binds] at hp
  · obtain rfl : b0 = false := by revert hp; cases b0 <;> simp
    clear hp
    refine inv_op (o := ⟨some 18, _, _, _, _, _⟩) rfl (fun K' hK' => ?_)
    have gW := HI.out.2.2.2.2.2.2.2.2.2.2.2
    obtain ⟨hc1, hc2⟩ := HM.out W gW
    go_simp
    exact hK'.out _ _ ⟨.mk .., rfl, rfl, (Upd (fun _ => rfl)) HI.out⟩
  · obtain rfl : b1 = false := by revert hp; cases b1 <;> simp
    clear hp
    refine inv_op (o := ⟨some 19, _, _, _, _, _⟩) rfl (fun K' hK' => ?_)
    go_simp
    exact hK'.out _ _ ⟨.mk .., rfl, rfl, Nxt (Upd (fun _ => rfl)) HI.out⟩
  · obtain rfl : b2 = false := by revert hp; cases b2 <;> simp
    clear hp
    refine inv_op (o := ⟨some 20, _, _, _, _, _⟩) rfl (fun K' hK' => ?_)
    go_simp
    exact hK'.out _ _ ⟨.mk .., rfl, rfl, Nxt (Nxt (Upd (fun _ => rfl))) HI.out⟩
  · obtain rfl : b3 = false := by revert hp; cases b3 <;> simp
    clear hp
    refine inv_op (o := ⟨some 21, _, _, _, _, _⟩) rfl (fun K' hK' => ?_)
    go_simp
    exact hK'.out _ _ ⟨.mk .., rfl, rfl, Nxt (Nxt (Nxt (Upd (fun _ => rfl)))) HI.out⟩
  · have hn4 : b4 = false := by revert hp; cases b4 <;> simp
    have e1 : b1 = true := by revert hp; cases b1 <;> simp
    have e2 : b2 = true := by revert hp; cases b2 <;> simp
    have e3 : b3 = true := by revert hp; cases b3 <;> simp
    clear hp
    obtain rfl := (HI.out.2.1) e1
    obtain rfl := (HI.out.2.2.1) e2
    obtain rfl := (HI.out.2.2.2.1) e3
    subst hn4
    refine inv_op (o := ⟨some 22, _, _, _, _, _⟩) rfl (fun K' hK' => ?_)
    go_simp
    refine (HP.out W).mono ?_
    rintro e w2 ⟨a, b, rfl, hr, bn⟩
    obtain ⟨h0, h1, h2, h3, h5, h7, h8, h9, h10, gR, gG, gW⟩ := HI.out
    exact hK'.out _ _ ⟨.mk .., rfl, rfl, h0, h1, h2, h3, h5, h7, h8, h9, h10, (fun _ => ⟨a, b, rfl⟩), (fun e7 e6 => by obtain ⟨ga, gb, h1, h2, h3⟩ := gG e7 e6; exact ⟨ga, gb, h1, h2.below bn, h3⟩), (gW.trans (bn.mono gW.size))⟩
  · obtain ⟨rfl, e4⟩ : b5 = false ∧ b4 = true := by revert hp; cases b5 <;> cases b4 <;> simp
    clear hp
    refine inv_op (o := ⟨some 23, _, _, _, _, _⟩) rfl (fun K' hK' => ?_)
    have gR := HI.out.2.2.2.2.2.2.2.2.2.1
    obtain ⟨a, b, rfl⟩ := gR e4
    have hfi := field_index
    go_simp
    exact hK'.out _ _ ⟨.mk .., rfl, rfl, Nx4 (Upd (fun _ => rfl)) HI.out⟩
  · obtain ⟨rfl, e0, e5⟩ : b6 = false ∧ b0 = true ∧ b5 = true := by revert hp; cases b6 <;> cases b0 <;> cases b5 <;> simp
    clear hp
    obtain rfl := (HI.out.1) e0
    obtain rfl := (HI.out.2.2.2.2.1) e5
    refine inv_op (o := ⟨some 24, _, _, _, _, _⟩) rfl (fun K' hK' => ?_)
    have gW := HI.out.2.2.2.2.2.2.2.2.2.2.2
    go_simp
    refine (HG.out W gW).mono ?_
    rintro e w2 ⟨ga, gb, rfl, hg, h1, hb, bn⟩
    obtain ⟨h0, h1, h2, h3, h5, h7, h8, h9, h10, gR, gG, gW⟩ := HI.out
    exact hK'.out _ _ ⟨.mk .., rfl, rfl, h0, h1, h2, h3, h5, h7, h8, h9, h10, gR, (fun _ _ => ⟨ga, gb, rfl, hg, Nat.le_trans gW.size hb⟩), (gW.trans (bn.mono gW.size))⟩
  · obtain ⟨rfl, e6⟩ : b7 = false ∧ b6 = true := by revert hp; cases b7 <;> cases b6 <;> simp
    clear hp
    refine inv_op (o := ⟨some 25, _, _, _, _, _⟩) rfl (fun K' hK' => ?_)
    have gG := HI.out.2.2.2.2.2.2.2.2.2.2.1
    have gW := HI.out.2.2.2.2.2.2.2.2.2.2.2
    obtain ⟨ga, gb, rfl, hg, hb⟩ := gG rfl e6
    go_simp
    refine (HN2.out W gW ga gb hg).mono ?_
    rintro e w2 ⟨rfl, hs⟩
    obtain ⟨h0, h1, h2, h3, h5, h7, h8, h9, h10, gR, gG, gW⟩ := HI.out
    exact hK'.out _ _ ⟨.mk .., rfl, rfl, h0, h1, h2, h3, h5, (fun _ => rfl), h8, h9, h10, gR, (fun e => by cases e), (hs.below gW hb gW.size)⟩
  · obtain ⟨rfl, e7⟩ : b8 = false ∧ b7 = true := by revert hp; cases b8 <;> cases b7 <;> simp
    clear hp
    obtain rfl := (HI.out.2.2.2.2.2.1) e7
    refine inv_op (o := ⟨some 26, _, _, _, _, _⟩) rfl (fun K' hK' => ?_)
    go_simp
    exact hK'.out _ _ ⟨.mk .., rfl, rfl, Nxt (Nxt (Nx4 (Upd (fun _ => rfl)))) HI.out⟩
  · obtain ⟨rfl, e8⟩ : b9 = false ∧ b8 = true := by revert hp; cases b9 <;> cases b8 <;> simp
    clear hp
    obtain rfl := (HI.out.2.2.2.2.2.2.1) e8
    refine inv_op (o := ⟨some 8, _, _, _, _, _⟩) rfl (fun K' hK' => ?_)
    go_simp
    exact hK'.out _ _ ⟨.mk .., rfl, rfl, Nxt (Nxt (Nxt (Nx4 (Upd (fun _ => rfl))))) HI.out⟩
  · obtain rfl : b10 = false := by revert hp; cases b10 <;> simp
    clear hp
    refine inv_op (o := ⟨some 9, _, _, _, _, _⟩) rfl (fun K' hK' => ?_)
    go_simp
    exact hK'.out _ _ ⟨.mk .., rfl, rfl, Nx4 (Nx4 (Upd (fun _ => rfl))) HI.out⟩
 case hdone =>
  rintro ⟨b0, b1, b2, b3, b4, b5, b6, b7, b8, b9, b10, s18, s19, s20, s21, s22, s23, s24, s25, s26, s8, s9⟩ W hI hall
  dsimp only at hI hall ⊢
  have HI := Lib.hid hI
  clear hI
  obtain rfl : b0 = true := hall 0 (by decide)
  obtain rfl : b1 = true := hall 1 (by decide)
  obtain rfl : b2 = true := hall 2 (by decide)
  obtain rfl : b3 = true := hall 3 (by decide)
  obtain rfl : b4 = true := hall 4 (by decide)
  obtain rfl : b5 = true := hall 5 (by decide)
  obtain rfl : b6 = true := hall 6 (by decide)
  obtain rfl : b7 = true := hall 7 (by decide)
  obtain rfl : b8 = true := hall 8 (by decide)
  obtain rfl : b9 = true := hall 9 (by decide)
  obtain rfl : b10 = true := hall 10 (by decide)
  obtain rfl := (HI.out.2.2.2.2.2.2.2.1) rfl
  obtain rfl := (HI.out.2.2.2.2.2.2.2.2.1) rfl
  have gW := HI.out.2.2.2.2.2.2.2.2.2.2.2
  clear HI hall
  have HW := Lib.hid (HB1.out.trans (gW.mono HB1.out.size))
  clear gW
  go_wp2
  go_ret2
  exact ⟨rfl, HW.out⟩
theorem used_any (v : Value) (l : List UInt8) (b z : Int) (F : Int) (y : Nat) (hF : ringF l.length b z = F) (hy : usedX l b z = y) (hl : l.length ≤ maxLen) (w : World) (hv : IsArg w v l) :
 Calls Tryz.prog 74 #[.agg #[v], .int .i64 b, .int .i64 z] w fun e w' => e = .returned (.tuple #[.int .u16 (y : Nat), .int .i64 F]) ∧ Below w.heap.size w w' := by
 have HX := Lib.hid (show ∀ W, IsArg W v l → Calls Tryz.prog 64 #[.agg #[v], .int .i64 b, .int .i64 z, .func (.func 54) #[] #[]] W fun e w' => e = .returned (.tuple #[.int .u16 (y : Nat), .int .i64 F]) ∧ Below W.heap.size W w' from by
  intro W hW
  by_cases h0 : F = 0
  · subst h0
    obtain ⟨B, N, rfl, rfl, hok⟩ := ring_in hF
    rw [usedX, if_pos hF, Int.toNat_natCast, Int.toNat_natCast] at hy
    exact index_in_used v l W hW B N _ hok rfl y hy
  · have h7 := ringF_two (by rw [hF]; exact h0)
    obtain rfl : F = 70 := by omega
    rw [usedX, if_neg (by rw [h7]; decide)] at hy
    subst hy
    obtain ⟨a, c, rfl, _⟩ := hW.shape
    exact index_out_used a l.length c hl b z h7 W)
 have HV := Lib.hid hv
 have HB0 := Lib.hid ((Below.refl w.heap.size w).alloc (Nat.le_refl _) (.cells #[v] 26))
 obtain ⟨a, c, rfl, _⟩ := hv.shape
 clear hF hy hl hv
 go_enter Tryz.func74, Tryz.ntmps74
 go_wp2_with fail
 refine (HX.out _ (HV.out.below HB0.out)).mono ?_
 rintro e w1 ⟨rfl, hb⟩
 have HB1 := Lib.hid (HB0.out.trans (hb.mono (by simp)))
 clear hb
 go_wp2
 go_ret2
 exact ⟨rfl, HB1.out⟩
end Go.Proofs.YtnmekbbnglkmcaaGreat
namespace Go.Proofs.YtnmekbbnglkmcaaGreat
open Go.RowKit Go.Lib
structure WSt (w : World) (ga gb gm : Nat) (v : Value) (l : List UInt8) (p : Nat) (ra : Option Addr) (rc : Nat) (G : List UInt8) (W : World) : Prop where
 out : Below w.heap.size w W
 lob : w.heap.size ≤ gb
 lom : w.heap.size ≤ gm
 mem : W.heap[gm]? = some (.cells #[.slice ra l.length rc] 26 (0, 0))
 put : PutAt W ga gb gm p
 giv : Given W w.heap.size v l (.slice ra l.length rc) G
 len : G.length = l.length
theorem WSt.below {w W W1 : World} {ga gb gm p : Nat} {v : Value} {l G : List UInt8} {ra : Option Addr} {rc : Nat} (h : WSt w ga gb gm v l p ra rc G W) (hb : Below W.heap.size W W1) : WSt w ga gb gm v l p ra rc G W1 where
 out := h.out.trans (hb.mono h.out.size)
 lob := h.lob
 lom := h.lom
 mem := row_keep h.mem hb
 put := h.put.below hb
 giv := h.giv.below hb
 len := h.len
theorem WSt.call {w W W1 : World} {ga gb gm p q : Nat} {v : Value} {l G H : List UInt8} {ra ra' : Option Addr} {rc rc' : Nat} (h : WSt w ga gb gm v l p ra rc G W) (hm : W1.heap[gm]? = some (.cells #[.slice ra' G.length rc'] 26 (0, 0))) (hp : PutAt W1 ga gb gm q) (hg : Given W1 W.heap.size (.slice ra l.length rc) G (.slice ra' G.length rc') H) (hs : Save2 W W1 gm gb) (hH : H.length = G.length) : WSt w ga gb gm v l q ra' rc' H W1 := by
 rw [h.len] at hm hg
 exact { out := hs.below h.out h.lom h.lob h.out.size, lob := h.lob, lom := h.lom, mem := hm, put := hp, giv := h.giv.step hg h.out.size (fun k => hs.given h.mem h.put.2 tneMU tneIU k), len := hH.trans h.len }
theorem WSt.other {w W : World} {ga gb gc gd gm p q : Nat} {v : Value} {l G : List UInt8} {ra : Option Addr} {rc : Nat} (h : WSt w ga gb gm v l p ra rc G W) (hp : PutAt W gc gd gm q) (hb : w.heap.size ≤ gd) : WSt w gc gd gm v l q ra rc G W :=
 { h with put := hp, lob := hb }
theorem put_step {w0 W : World} {ga gb gm p : Nat} {v : Value} {l G : List UInt8} {ra : Option Addr} {rc : Nat} (hv : IsArg w0 v l) (h : WSt w0 ga gb gm v l p ra rc G W) (k q y : Nat) (hq : p + k = q) (hL : l.length ≤ 8192) (hp : p + k ≤ l.length) (h1 : 1 ≤ k) (h8 : k ≤ 8) :
 Calls Tryz.prog 106 #[.int .i64 (k : Nat), .int .u64 (y : Nat), .pointer (some ⟨ga, 0, none⟩), .pointer (some ⟨gb, 0, none⟩)] W fun e w' => e = .returned (.tuple #[]) ∧ ∃ ra' rc', WSt w0 ga gb gm v l q ra' rc' (putAt G p k y) w' ∧ Save2 W w' gm gb := by
 have hr : IsArg W (.slice ra l.length rc) G := h.giv.arg hv h.out
 refine (put_num ga gb gm _ G p k q y hq (by rw [h.len]; exact hL) (by rw [h.len]; exact hp) h1 h8 W hr h.mem h.put).mono ?_
 rintro e w' ⟨rfl, ra', rc', hm, hp', hg, hs⟩
 exact ⟨rfl, ra', rc', h.call hm hp' hg hs (putAt_length y (by rw [h.len]; exact hp)), hs⟩
set_option maxHeartbeats 1000000 in
theorem offer1_any {w0 W : World} {ga gb gm gh p : Nat} {v : Value} {l G : List UInt8} {ra : Option Addr} {rc : Nat} (hv : IsArg w0 v l) (h : WSt w0 ga gb gm v l p ra rc G W) (z : Int) (y : Nat) (hy : (z % 65536).toNat = y) (hh : W.heap[gh]? = some (.cells #[.int .i64 z] 3 (0, 0))) (hL : l.length ≤ 8192) (hp : p + 2 ≤ l.length) :
 Calls Tryz.prog 63 #[.func (.func 106) #[] #[.pointer (some ⟨ga, 0, none⟩), .pointer (some ⟨gb, 0, none⟩)], .pointer (some ⟨gh, 0, none⟩)] W fun e w' => e = .returned (.tuple #[]) ∧ ∃ ra' rc', WSt w0 ga gb gm v l (p + 2) ra' rc' (putAt G p 2 y) w' ∧ Save2 W w' gm gb := by
 have HS := Lib.hid (put_step hv h 2 (p + 2) y rfl hL hp (by decide) (by decide))
 obtain ⟨c1, f1⟩ := one_cell hh
 have hw : IntKind.u16.wrap z = (y : Nat) := by simp [IntKind.wrap, IntKind.bits, IntKind.signed]; omega
 have hw2 : IntKind.u64.wrap ((y : Nat) : Int) = (y : Nat) := IntWalk.u64_in _ (by omega)
 clear hv h hy hh hL hp f1
 go_enter Tryz.func63, Tryz.ntmps63
 go_wp2_with fail
 refine (HS.out).mono ?_
 rintro e w1 ⟨rfl, ra', rc', h1, h2⟩
 have H1 := Lib.hid h1
 have H2 := Lib.hid h2
 clear h1 h2
 go_wp2
 exact bodyPost_end (v := .tuple #[]) (by simp [results, Tryz.results63]) rfl ⟨rfl, ra', rc', H1.out, H2.out⟩
theorem Save2.trans_given {w w1 w2 : World} {g b : Nat} (h : Save2 w w1 g b) (h2 : Save2 w1 w2 g b) : w.heap.size ≤ w2.heap.size ∧ ∀ (k : Nat) (o : Obj), w.heap[k]? = some o → k ≠ g → k ≠ b → w2.heap[k]? = some o :=
 ⟨Nat.le_trans h.size h2.size, fun _ _ hk hg hb => h2.row (h.row hk hg hb) hg hb⟩
def Kept2 (w w' : World) (g b : Nat) : Prop := ∀ (k : Nat) (o : Obj), w.heap[k]? = some o → k ≠ g → k ≠ b → w'.heap[k]? = some o
theorem Save2.kept {w w1 : World} {g b : Nat} (h : Save2 w w1 g b) : Kept2 w w1 g b := fun _ _ hk hg hb => h.row hk hg hb
set_option maxHeartbeats 1000000 in
theorem return1_any {w0 W : World} {ga gb gm gh p : Nat} {v : Value} {l G : List UInt8} {ra : Option Addr} {rc : Nat} (hv : IsArg w0 v l) (h : WSt w0 ga gb gm v l p ra rc G W) (y0 y1 : Nat) (hy0 : y0 < 4294967296) (hy1 : y1 < 4294967296) (hh : W.heap[gh]? = some (.cells #[.int .u32 (y0 : Nat), .int .u32 (y1 : Nat)] 53)) (hL : l.length ≤ 8192) (hp : p + 8 ≤ l.length) :
 Calls Tryz.prog 82 #[.func (.func 106) #[] #[.pointer (some ⟨ga, 0, none⟩), .pointer (some ⟨gb, 0, none⟩)], .pointer (some ⟨gh, 0, none⟩)] W fun e w' => e = .returned (.tuple #[]) ∧ ∃ ra' rc', WSt w0 ga gb gm v l (p + 8) ra' rc' (putAt (putAt G p 4 y0) (p + 4) 4 y1) w' ∧ Kept2 W w' gm gb := by
 have HS := Lib.hid (put_step hv h 4 (p + 4) y0 rfl hL (by omega) (by decide) (by decide))
 have HS2 := Lib.hid (fun (W' : World) (ra' : Option Addr) (rc' : Nat) (G' : List UInt8) (h' : WSt w0 ga gb gm v l (p + 4) ra' rc' G' W') => put_step hv h' 4 (p + 8) y1 (by omega) hL (by omega) (by decide) (by decide))
 obtain ⟨c0, c1, f0, f1⟩ := cells_two hh
 have hw0 : IntKind.u64.wrap ((y0 : Nat) : Int) = (y0 : Nat) := IntWalk.u64_in _ (by omega)
 have hw1 : IntKind.u64.wrap ((y1 : Nat) : Int) = (y1 : Nat) := IntWalk.u64_in _ (by omega)
 have HM := Lib.hid h.mem
 have HP := Lib.hid h.put
 have HH := Lib.hid hh
 clear hv h hy0 hy1 hh hL hp f0 f1
 go_enter Tryz.func82, Tryz.ntmps82
 go_wp2_with fail
 refine (HS.out).mono ?_
 rintro e w1 ⟨rfl, ra', rc', h1, h2⟩
 have H1 := Lib.hid h1
 have H2 := Lib.hid h2
 have hr := h2.row HH.out (blocks_ne HM.out HH.out tneUM) (blocks_ne HP.out.2 HH.out tneUI)
 obtain ⟨d0, d1, _, _⟩ := cells_two hr
 clear h1 h2 c0 c1 hr
 go_wp2_with fail
 refine (HS2.out _ _ _ _ H1.out).mono ?_
 rintro e w2 ⟨rfl, ra'', rc'', h1, h2⟩
 have H3 := Lib.hid h1
 have H4 := Lib.hid (show Kept2 W w2 gm gb from (H2.out.trans_given h2).2)
 clear h1 h2 d0 d1
 go_wp2
 exact bodyPost_end (v := .tuple #[]) (by simp [results, Tryz.results82]) rfl ⟨rfl, ra'', rc'', H3.out, H4.out⟩
end Go.Proofs.YtnmekbbnglkmcaaGreat
namespace Go.Proofs.YtnmekbbnglkmcaaGreat
open Go.RowKit Go.Lib
theorem three_new (w : World) (u : Value) (cs : Array Value) (v : Value) (s t q : TypeId) : (((w.alloc (.cells #[u] s)).alloc (.cells cs t)).alloc (.cells #[v] q)).heap[w.heap.size]? = some (.cells #[u] s (0, 0)) ∧ (((w.alloc (.cells #[u] s)).alloc (.cells cs t)).alloc (.cells #[v] q)).heap[w.heap.size + 1]? = some (.cells cs t (0, 0)) ∧ (((w.alloc (.cells #[u] s)).alloc (.cells cs t)).alloc (.cells #[v] q)).heap[w.heap.size + 2]? = some (.cells #[v] q (0, 0)) ∧ Below w.heap.size w (((w.alloc (.cells #[u] s)).alloc (.cells cs t)).alloc (.cells #[v] q)) := by
 refine ⟨row_keep (row_keep (heap_alloc_new w _) ((Below.refl _ _).alloc (Nat.le_refl _) (.cells cs t))) ((Below.refl _ _).alloc (Nat.le_refl _) _), row_keep (by simpa using heap_alloc_new (w.alloc (.cells #[u] s)) (.cells cs t)) ((Below.refl _ _).alloc (Nat.le_refl _) _), by simpa using heap_alloc_new ((w.alloc (.cells #[u] s)).alloc (.cells cs t)) (.cells #[v] q), (((Below.refl _ _).alloc (Nat.le_refl _) _).alloc (by simp) _).alloc (by simp; omega) _⟩
set_option maxHeartbeats 4000000 in
set_option maxRecDepth 100000 in
theorem laid_offer (v : Value) (l : List UInt8) (w : World) (hv : IsArg w v l) (hL : l.length ≤ 8192) (ix s a b N at_ j p gh : Nat) (hr : RowAt w a b (s : Nat) 2) (hN : 1 ≤ N ∧ N ≤ 16) (hi : at_ < 65536) (hj : at_ % N = j) (hp : s + 2 * j = p) (hpl : p + 2 ≤ l.length) (hix : ix + 2 ≤ l.length) (z : Int) (y : Nat) (hy : (z % 65536).toNat = y) (hh : w.heap[gh]? = some (.cells #[.int .i64 z] 3 (0, 0))) :
 Calls Tryz.prog 61 #[.agg #[v], .agg #[.int .i64 (ix : Nat), .func (.func 116) #[] #[.pointer (some ⟨a, 0, none⟩), .pointer (some ⟨b, 0, none⟩)]], .int .i64 (N : Nat), .int .u16 (at_ : Nat), .func (.func 63) #[] #[.pointer (some ⟨gh, 0, none⟩)]] w fun e w' => ∃ ra rc, e = .returned (.agg #[.slice ra l.length rc]) ∧ Given w' w.heap.size v l (.slice ra l.length rc) (putAt (putAt l p 2 y) ix 2 (at_ + 1)) ∧ Below w.heap.size w w' := by
 obtain ⟨k1, hk1⟩ : ∃ k, k = (at_ + 1) % 65536 := ⟨_, rfl⟩
 have hw16 : IntKind.u16.wrap (((at_ : Nat) : Int) + 1) = (k1 : Nat) := by simp [IntKind.wrap, IntKind.bits, IntKind.signed]; omega
 have hw64 : IntKind.u64.wrap ((k1 : Nat) : Int) = (k1 : Nat) := IntWalk.u64_in _ (by omega)
 have hlast : ∀ G, putAt G ix 2 (at_ + 1) = putAt G ix 2 k1 := fun G => putAt_mod G ix 2 (by rw [hk1]; omega)
 rw [hlast]
 have HV := Lib.hid hv
 have HL := Lib.hid hL
 have HN := Lib.hid hN
 have HI := Lib.hid hi
 have HJ := Lib.hid hj
 have HQ := Lib.hid (show ((j : Nat) : Int) * 2 = ((2 * j : Nat) : Int) by omega)
 have HT := Lib.hid (show ((s : Nat) : Int) + ((2 * j : Nat) : Int) = (p : Nat) by omega)
 have HQ1 := Lib.hid (show -9223372036854775808 ≤ ((2 * j : Nat) : Int) ∧ ((2 * j : Nat) : Int) ≤ 9223372036854775807 by omega)
 have HT1 := Lib.hid (show -9223372036854775808 ≤ ((p : Nat) : Int) ∧ ((p : Nat) : Int) ≤ 9223372036854775807 by omega)
 have HPL := Lib.hid hpl
 have HIX := Lib.hid hix
 have HY := Lib.hid hy
 have hgh := (Array.getElem?_eq_some_iff.1 hh).1
 have HGH := Lib.hid hgh
 obtain ⟨va, vc, rfl, _⟩ := hv.shape
 obtain ⟨t1, t2, t3, t4⟩ := three_new w (.slice va l.length vc) #[.int .i64 (ix : Nat), .func (.func 116) #[] #[.pointer (some ⟨a, 0, none⟩), .pointer (some ⟨b, 0, none⟩)]] (.slice none 0 0) 26 106 26
 have HB := Lib.hid t4
 have HM := Lib.hid t1
 have HP := Lib.hid t2
 have HR := Lib.hid t3
 have HRA := Lib.hid (hr.below t4)
 have HH := Lib.hid (row_keep hh t4)
 obtain ⟨c0, c1, g0, g1⟩ := cells_two t2
 clear hv hL hN hi hj hp hpl hix hr hh t1 t2 t3 t4 hy hk1 hlast g0 g1 hgh
 go_enter Tryz.func61, Tryz.ntmps61
 go_wp2_with fail
 refine (place_any _ (s : Nat) 2 _ _ a b N at_ j HJ.out HN.out HI.out HQ.out HT.out HQ1.out HT1.out _ HRA.out).mono ?_
 rintro e w1 ⟨rfl, hb⟩
 replace HM := Lib.hid (row_keep HM.out hb)
 replace HP := Lib.hid (row_keep HP.out hb)
 replace HR := Lib.hid (row_keep HR.out hb)
 replace HH := Lib.hid (row_keep HH.out hb)
 replace HB := Lib.hid (HB.out.trans (hb.mono HB.out.size))
 clear hb c0 c1
 go_wp2_with fail
 refine (putter_any w.heap.size p _).mono ?_
 rintro e w2 ⟨ga, gb, rfl, hpa, hga, hgb, hb⟩
 replace HM := Lib.hid (row_keep HM.out hb)
 replace HP := Lib.hid (row_keep HP.out hb)
 replace HR := Lib.hid (row_keep HR.out hb)
 replace HH := Lib.hid (row_keep HH.out hb)
 have hgb2 : w.heap.size ≤ gb := Nat.le_trans HB.out.size hgb
 replace HB := Lib.hid (HB.out.trans (hb.mono HB.out.size))
 have HW := Lib.hid (show WSt w ga gb w.heap.size (.slice va l.length vc) l p va vc l w2 from { out := HB.out, lob := hgb2, lom := Nat.le_refl _, mem := HM.out, put := hpa, giv := .inl ⟨rfl, rfl⟩, len := rfl })
 clear hpa hga hgb hb hgb2
 go_wp2_with fail
 refine (offer1_any HV.out HW.out z y HY.out (HH.out) HL.out HPL.out).mono ?_
 rintro e w3 ⟨rfl, ra, rc, h1, h2⟩
 have h3 : Kept2 w2 w3 w.heap.size gb := h2.kept
 replace HP := Lib.hid (h3 _ _ HP.out (by omega) (blocks_ne HW.out.put.2 HP.out tne))
 replace HR := Lib.hid (h3 _ _ HR.out (by omega) (blocks_ne HW.out.put.2 HR.out tneMI))
 replace HW := Lib.hid h1
 obtain ⟨c0, c1, g0, g1⟩ := cells_two HP.out
 clear h1 h2 h3 g0 g1
 go_wp2_with fail
 refine (putter_any w.heap.size ix _).mono ?_
 rintro e w4 ⟨gc, gd, rfl, hpa, hgc, hgd, hb⟩
 have hgd2 : w.heap.size ≤ gd := Nat.le_trans HW.out.out.size hgd
 replace HW := Lib.hid ((HW.out.below hb).other hpa hgd2)
 replace HR := Lib.hid (row_keep HR.out hb)
 clear c0 c1 hpa hgc hgd hb hgd2
 go_wp2_with fail
 refine (put_step HV.out HW.out 2 (ix + 2) k1 rfl HL.out HIX.out (by decide) (by decide)).mono ?_
 rintro e w5 ⟨rfl, ra2, rc2, h1, h2⟩
 replace HR := Lib.hid (h2.row HR.out (by omega) (blocks_ne HW.out.put.2 HR.out tneMI))
 replace HW := Lib.hid h1
 obtain ⟨c0, g0⟩ := one_cell HW.out.mem
 obtain ⟨r0, f0⟩ := one_cell HR.out
 clear h1 h2 g0
 go_wp2
 refine bodyPost_ret (v := .agg #[.slice ra2 l.length rc2]) (by simp [results, Tryz.results61, go_sem, r0]) rfl ⟨ra2, rc2, rfl, HW.out.giv.far HR.out tneMU _, HW.out.out.setCell (by simp; omega) _⟩
set_option maxHeartbeats 4000000 in
set_option maxRecDepth 100000 in
theorem laid_return (v : Value) (l : List UInt8) (w : World) (hv : IsArg w v l) (hL : l.length ≤ 8192) (ix s a b N at_ j p gh : Nat) (hr : RowAt w a b (s : Nat) 8) (hN : 1 ≤ N ∧ N ≤ 16) (hi : at_ < 65536) (hj : at_ % N = j) (hp : s + 8 * j = p) (hpl : p + 8 ≤ l.length) (hix : ix + 2 ≤ l.length) (y0 y1 : Nat) (hy0 : y0 < 4294967296) (hy1 : y1 < 4294967296) (hh : w.heap[gh]? = some (.cells #[.int .u32 (y0 : Nat), .int .u32 (y1 : Nat)] 53)) :
 Calls Tryz.prog 61 #[.agg #[v], .agg #[.int .i64 (ix : Nat), .func (.func 116) #[] #[.pointer (some ⟨a, 0, none⟩), .pointer (some ⟨b, 0, none⟩)]], .int .i64 (N : Nat), .int .u16 (at_ : Nat), .func (.func 82) #[] #[.pointer (some ⟨gh, 0, none⟩)]] w fun e w' => ∃ ra rc, e = .returned (.agg #[.slice ra l.length rc]) ∧ Given w' w.heap.size v l (.slice ra l.length rc) (putAt (putAt (putAt l p 4 y0) (p + 4) 4 y1) ix 2 (at_ + 1)) ∧ Below w.heap.size w w' := by
 obtain ⟨k1, hk1⟩ : ∃ k, k = (at_ + 1) % 65536 := ⟨_, rfl⟩
 have hw16 : IntKind.u16.wrap (((at_ : Nat) : Int) + 1) = (k1 : Nat) := by simp [IntKind.wrap, IntKind.bits, IntKind.signed]; omega
 have hw64 : IntKind.u64.wrap ((k1 : Nat) : Int) = (k1 : Nat) := IntWalk.u64_in _ (by omega)
 have hlast : ∀ G, putAt G ix 2 (at_ + 1) = putAt G ix 2 k1 := fun G => putAt_mod G ix 2 (by rw [hk1]; omega)
 rw [hlast]
 have HV := Lib.hid hv
 have HL := Lib.hid hL
 have HN := Lib.hid hN
 have HI := Lib.hid hi
 have HJ := Lib.hid hj
 have HQ := Lib.hid (show ((j : Nat) : Int) * 8 = ((8 * j : Nat) : Int) by omega)
 have HT := Lib.hid (show ((s : Nat) : Int) + ((8 * j : Nat) : Int) = (p : Nat) by omega)
 have HQ1 := Lib.hid (show -9223372036854775808 ≤ ((8 * j : Nat) : Int) ∧ ((8 * j : Nat) : Int) ≤ 9223372036854775807 by omega)
 have HT1 := Lib.hid (show -9223372036854775808 ≤ ((p : Nat) : Int) ∧ ((p : Nat) : Int) ≤ 9223372036854775807 by omega)
 have HPL := Lib.hid hpl
 have HIX := Lib.hid hix
 have HY0 := Lib.hid hy0
 have HY1 := Lib.hid hy1
 have hgh := (Array.getElem?_eq_some_iff.1 hh).1
 have HGH := Lib.hid hgh
 obtain ⟨va, vc, rfl, _⟩ := hv.shape
 obtain ⟨t1, t2, t3, t4⟩ := three_new w (.slice va l.length vc) #[.int .i64 (ix : Nat), .func (.func 116) #[] #[.pointer (some ⟨a, 0, none⟩), .pointer (some ⟨b, 0, none⟩)]] (.slice none 0 0) 26 106 26
 have HB := Lib.hid t4
 have HM := Lib.hid t1
 have HP := Lib.hid t2
 have HR := Lib.hid t3
 have HRA := Lib.hid (hr.below t4)
 have HH := Lib.hid (row_keep hh t4)
 obtain ⟨c0, c1, g0, g1⟩ := cells_two t2
 clear hv hL hN hi hj hp hpl hix hr hh t1 t2 t3 t4 hy0 hy1 hk1 hlast g0 g1 hgh
 go_enter Tryz.func61, Tryz.ntmps61
 go_wp2_with fail
 refine (place_any _ (s : Nat) 8 _ _ a b N at_ j HJ.out HN.out HI.out HQ.out HT.out HQ1.out HT1.out _ HRA.out).mono ?_
 rintro e w1 ⟨rfl, hb⟩
 replace HM := Lib.hid (row_keep HM.out hb)
 replace HP := Lib.hid (row_keep HP.out hb)
 replace HR := Lib.hid (row_keep HR.out hb)
 replace HH := Lib.hid (row_keep HH.out hb)
 replace HB := Lib.hid (HB.out.trans (hb.mono HB.out.size))
 clear hb c0 c1
 go_wp2_with fail
 refine (putter_any w.heap.size p _).mono ?_
 rintro e w2 ⟨ga, gb, rfl, hpa, hga, hgb, hb⟩
 replace HM := Lib.hid (row_keep HM.out hb)
 replace HP := Lib.hid (row_keep HP.out hb)
 replace HR := Lib.hid (row_keep HR.out hb)
 replace HH := Lib.hid (row_keep HH.out hb)
 have hgb2 : w.heap.size ≤ gb := Nat.le_trans HB.out.size hgb
 replace HB := Lib.hid (HB.out.trans (hb.mono HB.out.size))
 have HW := Lib.hid (show WSt w ga gb w.heap.size (.slice va l.length vc) l p va vc l w2 from { out := HB.out, lob := hgb2, lom := Nat.le_refl _, mem := HM.out, put := hpa, giv := .inl ⟨rfl, rfl⟩, len := rfl })
 clear hpa hga hgb hb hgb2
 go_wp2_with fail
 refine (return1_any HV.out HW.out y0 y1 HY0.out HY1.out (HH.out) HL.out HPL.out).mono ?_
 rintro e w3 ⟨rfl, ra, rc, h1, h2⟩
 have h3 : Kept2 w2 w3 w.heap.size gb := h2
 replace HP := Lib.hid (h3 _ _ HP.out (by omega) (blocks_ne HW.out.put.2 HP.out tne))
 replace HR := Lib.hid (h3 _ _ HR.out (by omega) (blocks_ne HW.out.put.2 HR.out tneMI))
 replace HW := Lib.hid h1
 obtain ⟨c0, c1, g0, g1⟩ := cells_two HP.out
 clear h1 h2 h3 g0 g1
 go_wp2_with fail
 refine (putter_any w.heap.size ix _).mono ?_
 rintro e w4 ⟨gc, gd, rfl, hpa, hgc, hgd, hb⟩
 have hgd2 : w.heap.size ≤ gd := Nat.le_trans HW.out.out.size hgd
 replace HW := Lib.hid ((HW.out.below hb).other hpa hgd2)
 replace HR := Lib.hid (row_keep HR.out hb)
 clear c0 c1 hpa hgc hgd hb hgd2
 go_wp2_with fail
 refine (put_step HV.out HW.out 2 (ix + 2) k1 rfl HL.out HIX.out (by decide) (by decide)).mono ?_
 rintro e w5 ⟨rfl, ra2, rc2, h1, h2⟩
 replace HR := Lib.hid (h2.row HR.out (by omega) (blocks_ne HW.out.put.2 HR.out tneMI))
 replace HW := Lib.hid h1
 obtain ⟨c0, g0⟩ := one_cell HW.out.mem
 obtain ⟨r0, f0⟩ := one_cell HR.out
 clear h1 h2 g0
 go_wp2
 refine bodyPost_ret (v := .agg #[.slice ra2 l.length rc2]) (by simp [results, Tryz.results61, go_sem, r0]) rfl ⟨ra2, rc2, rfl, HW.out.giv.far HR.out tneMU _, HW.out.out.setCell (by simp; omega) _⟩
theorem desc_eql (a b c d a' b' c' d' : Nat) (r : Bool) (hr : decide (a = a' ∧ b = b' ∧ c = c' ∧ d = d') = r) (W : World) : (binOp .eql 112 (.agg #[.int .u64 (a : Nat), .int .u32 (b : Nat), .int .u16 (c : Nat), .int .u16 (d : Nat)]) (.agg #[.int .u64 (a' : Nat), .int .u32 (b' : Nat), .int .u16 (c' : Nat), .int .u16 (d' : Nat)])).run Tryz.prog W = .ok (.bool (r)) W := by
 subst hr
 rw [run_eql_struct, run_equalIn_agg _ _ _ _ _ (by kernel_rfl) (by kernel_rfl)]
 simp [go_sem, Op.eqFields, Program.fieldsOf, Tryz.underlying112]
 have ea : ((a : Nat) : Int) = ((a' : Nat) : Int) ↔ a = a' := by omega
 have eb : ((b : Nat) : Int) = ((b' : Nat) : Int) ↔ b = b' := by omega
 have ec : ((c : Nat) : Int) = ((c' : Nat) : Int) ↔ c = c' := by omega
 have ed : ((d : Nat) : Int) = ((d' : Nat) : Int) ↔ d = d' := by omega
 by_cases h1 : a = a' <;> by_cases h2 : b = b' <;> by_cases h3 : c = c' <;> by_cases h4 : d = d' <;> simp [ea, eb, ec, ed, h1, h2, h3, h4]
end Go.Proofs.YtnmekbbnglkmcaaGreat
namespace Go.Proofs.YtnmekbbnglkmcaaGreat
open Go.RowKit Go.Lib
def Wrote (w : World) (v : Value) (l G : List UInt8) (F : Int) (e : Ending) (w' : World) : Prop := ∃ ra rc, e = .returned (.tuple #[.agg #[.slice ra l.length rc], .int .i64 F]) ∧ Given w' w.heap.size v l (.slice ra l.length rc) G ∧ Below w.heap.size w w'
theorem three_box (w : World) (u : Value) (a n f x : Nat) : (((w.alloc (.cells #[u] 26)).alloc (.cells #[.int .u64 (a : Nat), .int .u32 (n : Nat), .int .u16 (f : Nat), .int .u16 (x : Nat)] 112)).alloc (.cells #[.slice none 0 0] 26)).heap[w.heap.size]? = some (.cells #[u] 26 (0, 0)) ∧ (((w.alloc (.cells #[u] 26)).alloc (.cells #[.int .u64 (a : Nat), .int .u32 (n : Nat), .int .u16 (f : Nat), .int .u16 (x : Nat)] 112)).alloc (.cells #[.slice none 0 0] 26)).heap[w.heap.size + 1]? = some (.cells #[.int .u64 (a : Nat), .int .u32 (n : Nat), .int .u16 (f : Nat), .int .u16 (x : Nat)] 112) ∧ (((w.alloc (.cells #[u] 26)).alloc (.cells #[.int .u64 (a : Nat), .int .u32 (n : Nat), .int .u16 (f : Nat), .int .u16 (x : Nat)] 112)).alloc (.cells #[.slice none 0 0] 26)).heap[w.heap.size + 2]? = some (.cells #[.slice none 0 0] 26) ∧ Below w.heap.size w (((w.alloc (.cells #[u] 26)).alloc (.cells #[.int .u64 (a : Nat), .int .u32 (n : Nat), .int .u16 (f : Nat), .int .u16 (x : Nat)] 112)).alloc (.cells #[.slice none 0 0] 26)) := three_new w u _ _ _ _ _
set_option maxHeartbeats 4000000 in
set_option maxRecDepth 100000 in
theorem setDesc_same (v : Value) (l : List UInt8) (b z i : Int) (a n f x : Nat) (F : Int) (x0 x1 x2 x3 : Nat) (hF : descF l.length b z i = F) (h0 : descX l b z i 0 8 = x0) (h1 : descX l b z i 8 4 = x1) (h2 : descX l b z i 12 2 = x2) (h3 : descX l b z i 14 2 = x3) (hc : F ≠ 0 ∨ (F = 0 ∧ decide (x0 = a ∧ x1 = n ∧ x2 = f ∧ x3 = x) = true)) (hl : l.length ≤ 140737488355328) (w : World) (hv : IsArg w v l) :
 Calls Tryz.prog 58 #[.agg #[v], .int .i64 b, .int .i64 z, .int .i64 i, .agg #[.int .u64 (a : Nat), .int .u32 (n : Nat), .int .u16 (f : Nat), .int .u16 (x : Nat)]] w (Wrote w v l l F) := by
 have HV := Lib.hid hv
 have HL := Lib.hid hl
 have HMX := Lib.hid (show l.length ≤ maxLen by unfold maxLen; omega)
 have HF := Lib.hid hF
 have H0 := Lib.hid h0
 have H1 := Lib.hid h1
 have H2 := Lib.hid h2
 have H3 := Lib.hid h3
 obtain ⟨va, vc, rfl, _⟩ := hv.shape
 obtain ⟨t1, t2, t3, t4⟩ := three_box w (.slice va l.length vc) a n f x
 have HB := Lib.hid t4
 have HM := Lib.hid t1
 have HD := Lib.hid t2
 have HR := Lib.hid t3
 obtain ⟨k, hk⟩ : ∃ k, k = w.heap.size + 1 := ⟨_, rfl⟩
 clear hv hl hF h0 h1 h2 h3 t1 t2 t3 t4 hk
 go_enter Tryz.func58, Tryz.ntmps58
 go_wp2_with fail
 refine (desc_any _ l b z i F x0 x1 x2 x3 HF.out H0.out H1.out H2.out H3.out HMX.out _ (HV.out.below HB.out)).mono ?_
 rintro e w1 ⟨rfl, hb⟩
 have hbx : Below w1.heap.size w1 (w1.alloc (.cells #[.int .u64 (x0 : Nat), .int .u32 (x1 : Nat), .int .u16 (x2 : Nat), .int .u16 (x3 : Nat)] 112)) := (Below.refl _ _).alloc (Nat.le_refl _) _
 replace HM := Lib.hid (row_keep (row_keep HM.out hb) hbx)
 replace HD := Lib.hid (row_keep (row_keep HD.out hb) hbx)
 replace HR := Lib.hid (row_keep (row_keep HR.out hb) hbx)
 replace HB := Lib.hid ((HB.out.trans (hb.mono HB.out.size)).trans (hbx.mono (HB.out.trans (hb.mono HB.out.size)).size))
 have ht := heap_alloc_new w1 (.cells #[.int .u64 (x0 : Nat), .int .u32 (x1 : Nat), .int .u16 (x2 : Nat), .int .u16 (x3 : Nat)] 112)
 obtain ⟨c0, _⟩ := one_cell HM.out
 obtain ⟨d0, _⟩ := at_cell HD.out 0 _ rfl
 obtain ⟨d1, _⟩ := at_cell HD.out 1 _ rfl
 obtain ⟨d2, _⟩ := at_cell HD.out 2 _ rfl
 obtain ⟨d3, _⟩ := at_cell HD.out 3 _ rfl
 obtain ⟨e0, _⟩ := at_cell ht 0 _ rfl
 obtain ⟨e1, _⟩ := at_cell ht 1 _ rfl
 obtain ⟨e2, _⟩ := at_cell ht 2 _ rfl
 obtain ⟨e3, _⟩ := at_cell ht 3 _ rfl
 have hlt : w.heap.size < w1.heap.size := by have h := (Array.getElem?_eq_some_iff.1 (row_keep (w := w1) (row_keep (w := w1) (show w1.heap[w.heap.size]? = some _ from row_keep (three_box w (.slice va l.length vc) a n f x).1 hb) (Below.refl _ _)) (Below.refl _ _))).1; exact h
 clear hb hbx ht
 rcases hc with hc | ⟨rfl, hc⟩
 · have hn0 : (F != 0) = true := by rw [bne_iff_ne]; exact hc
   clear hc
   go_wp2_with fail
   refine (ringSame_any _ l _ (HV.out.below HB.out) HL.out).mono ?_
   rintro e w2 ⟨r, rfl, hr, hb⟩
   have HR2 := Lib.hid (row_keep HR.out hb)
   have HB2 := Lib.hid (HB.out.trans (hb.mono HB.out.size))
   have HO := Lib.hid (ownsRow_base (base' := w.heap.size) hr HB.out.size)
   obtain ⟨ra, rc, rfl, _⟩ := (isArg_of_owns hr).shape
   obtain ⟨r0, f0⟩ := one_cell HR2.out
   clear hb hr c0 d0 d1 d2 d3 e0 e1 e2 e3
   go_wp2
   refine bodyPost_ret (v := .tuple #[.agg #[.slice ra l.length rc], .int .i64 F]) (by simp [results, Tryz.results58, go_sem, r0]) rfl ⟨ra, rc, rfl, .inr (owns_far HO.out HR2.out tneMU _), HB2.out.setCell (by simp; omega) _⟩
 · have hq := desc_eql x0 x1 x2 x3 a n f x true hc
   clear hc
   go_wp2_with fail
   refine (ringSame_any _ l _ (HV.out.below HB.out) HL.out).mono ?_
   rintro e w2 ⟨r, rfl, hr, hb⟩
   have HR2 := Lib.hid (row_keep HR.out hb)
   have HB2 := Lib.hid (HB.out.trans (hb.mono HB.out.size))
   have HO := Lib.hid (ownsRow_base (base' := w.heap.size) hr HB.out.size)
   obtain ⟨ra, rc, rfl, _⟩ := (isArg_of_owns hr).shape
   obtain ⟨r0, f0⟩ := one_cell HR2.out
   clear hb hr c0 d0 d1 d2 d3 e0 e1 e2 e3
   go_wp2
   refine bodyPost_ret (v := .tuple #[.agg #[.slice ra l.length rc], .int .i64 0]) (by simp [results, Tryz.results58, go_sem, r0]) rfl ⟨ra, rc, rfl, .inr (owns_far HO.out HR2.out tneMU _), HB2.out.setCell (by simp; omega) _⟩
set_option maxHeartbeats 4000000 in
set_option maxRecDepth 100000 in
theorem setDesc_in (v : Value) (l : List UInt8) (B N I p : Nat) (hok : RingOk l.length B N) (hI : I < N) (hp : B + 16 * I = p) (a n f x : Nat) (hn : n < 4294967296) (hf : f < 65536) (hx : x < 65536) (x0 x1 x2 x3 : Nat) (hF : descF l.length (B : Nat) (N : Nat) (I : Nat) = 0) (h0 : descX l (B : Nat) (N : Nat) (I : Nat) 0 8 = x0) (h1 : descX l (B : Nat) (N : Nat) (I : Nat) 8 4 = x1) (h2 : descX l (B : Nat) (N : Nat) (I : Nat) 12 2 = x2) (h3 : descX l (B : Nat) (N : Nat) (I : Nat) 14 2 = x3) (hc : decide (x0 = a ∧ x1 = n ∧ x2 = f ∧ x3 = x) = false) (w : World) (hv : IsArg w v l) :
 Calls Tryz.prog 58 #[.agg #[v], .int .i64 (B : Nat), .int .i64 (N : Nat), .int .i64 (I : Nat), .agg #[.int .u64 (a : Nat), .int .u32 (n : Nat), .int .u16 (f : Nat), .int .u16 (x : Nat)]] w (Wrote w v l (setD l p a n f x) 0) := by
 have hN := hok.right.le
 have hsz := sizeN_le N
 have hfit := hok.fits
 have hl := hok.few
 have hpl : p + 16 ≤ l.length := by omega
 have HV := Lib.hid hv
 have HL := Lib.hid hl
 have HMX := Lib.hid (show l.length ≤ maxLen by unfold maxLen; omega)
 have HF := Lib.hid hF
 have HQ := Lib.hid (show ((I : Nat) : Int) * 16 = ((16 * I : Nat) : Int) by omega)
 have HT := Lib.hid (show ((B : Nat) : Int) + ((16 * I : Nat) : Int) = (p : Nat) by omega)
 have HQ1 := Lib.hid (show -9223372036854775808 ≤ ((16 * I : Nat) : Int) ∧ ((16 * I : Nat) : Int) ≤ 9223372036854775807 by omega)
 have HT1 := Lib.hid (show -9223372036854775808 ≤ ((p : Nat) : Int) ∧ ((p : Nat) : Int) ≤ 9223372036854775807 by omega)
 have HPL := Lib.hid hpl
 have hq := desc_eql x0 x1 x2 x3 a n f x false hc
 have k1 : IntKind.u64.wrap ((n : Nat) : Int) = (n : Nat) := IntWalk.u64_in _ (by omega)
 have k2 : IntKind.u64.wrap ((f : Nat) : Int) = (f : Nat) := IntWalk.u64_in _ (by omega)
 have k3 : IntKind.u64.wrap ((x : Nat) : Int) = (x : Nat) := IntWalk.u64_in _ (by omega)
 have H0 := Lib.hid h0
 have H1 := Lib.hid h1
 have H2 := Lib.hid h2
 have H3 := Lib.hid h3
 obtain ⟨va, vc, rfl, _⟩ := hv.shape
 obtain ⟨t1, t2, t3, t4⟩ := three_box w (.slice va l.length vc) a n f x
 have HB := Lib.hid t4
 have HM := Lib.hid t1
 have HD := Lib.hid t2
 have HR := Lib.hid t3
 obtain ⟨k, hk⟩ : ∃ k, k = w.heap.size + 1 := ⟨_, rfl⟩
 clear hok hI hp hpl hsz hN hfit hn hf hx hc hv hl hF h0 h1 h2 h3 t1 t2 t3 t4 hk
 go_enter Tryz.func58, Tryz.ntmps58
 go_wp2_with fail
 refine (desc_any _ l (B : Nat) (N : Nat) (I : Nat) 0 x0 x1 x2 x3 HF.out H0.out H1.out H2.out H3.out HMX.out _ (HV.out.below HB.out)).mono ?_
 rintro e w1 ⟨rfl, hb⟩
 have hbx : Below w1.heap.size w1 (w1.alloc (.cells #[.int .u64 (x0 : Nat), .int .u32 (x1 : Nat), .int .u16 (x2 : Nat), .int .u16 (x3 : Nat)] 112)) := (Below.refl _ _).alloc (Nat.le_refl _) _
 replace HM := Lib.hid (row_keep (row_keep HM.out hb) hbx)
 replace HD := Lib.hid (row_keep (row_keep HD.out hb) hbx)
 replace HR := Lib.hid (row_keep (row_keep HR.out hb) hbx)
 replace HB := Lib.hid ((HB.out.trans (hb.mono HB.out.size)).trans (hbx.mono (HB.out.trans (hb.mono HB.out.size)).size))
 have ht := heap_alloc_new w1 (.cells #[.int .u64 (x0 : Nat), .int .u32 (x1 : Nat), .int .u16 (x2 : Nat), .int .u16 (x3 : Nat)] 112)
 obtain ⟨c0, _⟩ := one_cell HM.out
 obtain ⟨d0, _⟩ := at_cell HD.out 0 _ rfl
 obtain ⟨d1, _⟩ := at_cell HD.out 1 _ rfl
 obtain ⟨d2, _⟩ := at_cell HD.out 2 _ rfl
 obtain ⟨d3, _⟩ := at_cell HD.out 3 _ rfl
 obtain ⟨e0, _⟩ := at_cell ht 0 _ rfl
 obtain ⟨e1, _⟩ := at_cell ht 1 _ rfl
 obtain ⟨e2, _⟩ := at_cell ht 2 _ rfl
 obtain ⟨e3, _⟩ := at_cell ht 3 _ rfl
 have hlt : w.heap.size < w1.heap.size := by have h := (Array.getElem?_eq_some_iff.1 (row_keep (w := w1) (row_keep (w := w1) (show w1.heap[w.heap.size]? = some _ from row_keep (three_box w (.slice va l.length vc) a n f x).1 hb) (Below.refl _ _)) (Below.refl _ _))).1; exact h
 clear hb hbx ht
 go_wp2_with fail
 refine (descs_any _ _).mono ?_
 rintro e w2 ⟨ra, rb, rfl, hr, hb⟩
 replace HM := Lib.hid (row_keep HM.out hb)
 replace HD := Lib.hid (row_keep HD.out hb)
 replace HR := Lib.hid (row_keep HR.out hb)
 replace HB := Lib.hid (HB.out.trans (hb.mono HB.out.size))
 have HRA := Lib.hid hr
 clear hr hb hq c0 d0 d1 d2 d3 e0 e1 e2 e3
 go_wp2_with fail
 refine (row1_any ra rb _ 16 _ _ _ HQ.out HT.out HQ1.out HT1.out _ HRA.out).mono ?_
 rintro e w3 ⟨rfl, rfl⟩
 go_wp2_with fail
 refine (putter_any w.heap.size p _).mono ?_
 rintro e w4 ⟨ga, gb, rfl, hpa, hga, hgb, hb⟩
 have hgb2 : w.heap.size ≤ gb := Nat.le_trans HB.out.size hgb
 replace HM := Lib.hid (row_keep HM.out hb)
 replace HD := Lib.hid (row_keep HD.out hb)
 replace HR := Lib.hid (row_keep HR.out hb)
 replace HB := Lib.hid (HB.out.trans (hb.mono HB.out.size))
 have HW := Lib.hid (show WSt w ga gb w.heap.size (.slice va l.length vc) l p va vc l w4 from { out := HB.out, lob := hgb2, lom := Nat.le_refl _, mem := HM.out, put := hpa, giv := .inl ⟨rfl, rfl⟩, len := rfl })
 clear hpa hga hgb hb hgb2
 obtain ⟨d0, _⟩ := at_cell HD.out 0 _ rfl
 go_wp2_with fail
 refine (put_step HV.out HW.out 8 (p + 8) a (by omega) HL.out (by have := HPL.out; omega) (by decide) (by decide)).mono ?_
 rintro e w5 ⟨rfl, sa0, sc0, h1, h2⟩
 replace HD := Lib.hid (h2.row HD.out (by omega) (blocks_ne HW.out.put.2 HD.out tneDI))
 replace HR := Lib.hid (h2.row HR.out (by omega) (blocks_ne HW.out.put.2 HR.out tneMI))
 replace HW := Lib.hid h1
 clear h1 h2 d0
 obtain ⟨d1, _⟩ := at_cell HD.out 1 _ rfl
 go_wp2_with fail
 refine (put_step HV.out HW.out 4 (p + 12) n (by omega) HL.out (by have := HPL.out; omega) (by decide) (by decide)).mono ?_
 rintro e w6 ⟨rfl, sa1, sc1, h1, h2⟩
 replace HD := Lib.hid (h2.row HD.out (by omega) (blocks_ne HW.out.put.2 HD.out tneDI))
 replace HR := Lib.hid (h2.row HR.out (by omega) (blocks_ne HW.out.put.2 HR.out tneMI))
 replace HW := Lib.hid h1
 clear h1 h2 d1
 obtain ⟨d2, _⟩ := at_cell HD.out 2 _ rfl
 go_wp2_with fail
 refine (put_step HV.out HW.out 2 (p + 14) f (by omega) HL.out (by have := HPL.out; omega) (by decide) (by decide)).mono ?_
 rintro e w7 ⟨rfl, sa2, sc2, h1, h2⟩
 replace HD := Lib.hid (h2.row HD.out (by omega) (blocks_ne HW.out.put.2 HD.out tneDI))
 replace HR := Lib.hid (h2.row HR.out (by omega) (blocks_ne HW.out.put.2 HR.out tneMI))
 replace HW := Lib.hid h1
 clear h1 h2 d2
 obtain ⟨d3, _⟩ := at_cell HD.out 3 _ rfl
 go_wp2_with fail
 refine (put_step HV.out HW.out 2 (p + 16) x (by omega) HL.out (by have := HPL.out; omega) (by decide) (by decide)).mono ?_
 rintro e w8 ⟨rfl, sa3, sc3, h1, h2⟩
 replace HD := Lib.hid (h2.row HD.out (by omega) (blocks_ne HW.out.put.2 HD.out tneDI))
 replace HR := Lib.hid (h2.row HR.out (by omega) (blocks_ne HW.out.put.2 HR.out tneMI))
 replace HW := Lib.hid h1
 clear h1 h2 d3
 obtain ⟨c0, _⟩ := one_cell HW.out.mem
 obtain ⟨r0, f0⟩ := one_cell HR.out
 go_wp2
 refine bodyPost_ret (v := .tuple #[.agg #[.slice sa3 l.length sc3], .int .i64 0]) (by simp [results, Tryz.results58, go_sem, r0]) rfl ⟨sa3, sc3, rfl, HW.out.giv.far HR.out tneMU _, HW.out.out.setCell (by simp; omega) _⟩
theorem setD_self (l : List UInt8) (p : Nat) (h : p + 16 ≤ l.length) : setD l p (numAt l p 8) (numAt l (p + 8) 4) (numAt l (p + 12) 2) (numAt l (p + 14) 2) = l := by
 unfold setD
 rw [putAt_self (by omega), putAt_self (by omega), putAt_self (by omega), putAt_self (by omega)]
theorem setDesc_any (v : Value) (l : List UInt8) (b z i : Int) (a n f x : Nat) (hn : n < 4294967296) (hf : f < 65536) (hx : x < 65536) (F : Int) (G : List UInt8) (hF : descF l.length b z i = F) (hG : setX l b z i a n f x = G) (hl : l.length ≤ 140737488355328) (w : World) (hv : IsArg w v l) :
 Calls Tryz.prog 58 #[.agg #[v], .int .i64 b, .int .i64 z, .int .i64 i, .agg #[.int .u64 (a : Nat), .int .u32 (n : Nat), .int .u16 (f : Nat), .int .u16 (x : Nat)]] w (Wrote w v l G F) := by
 by_cases hz : F = 0
 · subst hz
   have hF2 := hF
   rcases desc_cases l.length b z i with ⟨_, h⟩ | ⟨_, _, h⟩ | ⟨B, N, I, rfl, rfl, rfl, hI, hok, h⟩
   · omega
   · omega
   · rw [setX, if_pos h, Int.toNat_natCast, Int.toNat_natCast] at hG
     have hpl : B + 16 * I + 16 ≤ l.length := by
      have h1 := hok.fits
      have h2 := sizeN_le N
      omega
     cases hc : decide (descX l (B : Nat) (N : Nat) (I : Nat) 0 8 = a ∧ descX l (B : Nat) (N : Nat) (I : Nat) 8 4 = n ∧ descX l (B : Nat) (N : Nat) (I : Nat) 12 2 = f ∧ descX l (B : Nat) (N : Nat) (I : Nat) 14 2 = x) with
     | true =>
       have h4 := of_decide_eq_true hc
       have h5 : ∀ o k, descX l (B : Nat) (N : Nat) (I : Nat) o k = numAt l (B + 16 * I + o) k := fun o k => by rw [descX, if_pos h, Int.toNat_natCast, Int.toNat_natCast]
       rw [h5, h5, h5, h5] at h4
       have h6 : l = G := by
        rw [← hG, ← h4.1, ← h4.2.1, ← h4.2.2.1, ← h4.2.2.2]
        exact (setD_self l (B + 16 * I) hpl).symm
       have h7 := setDesc_same v l (B : Nat) (N : Nat) (I : Nat) a n f x 0 _ _ _ _ hF2 rfl rfl rfl rfl (.inr ⟨rfl, hc⟩) hl w hv
       rw [← h6]
       exact h7
     | false =>
       have h7 := setDesc_in v l B N I _ hok hI rfl a n f x hn hf hx _ _ _ _ hF2 rfl rfl rfl rfl hc w hv
       rw [hG] at h7
       exact h7
 · rw [setX, if_neg (by rw [hF]; exact hz)] at hG
   subst hG
   exact setDesc_same v l b z i a n f x F _ _ _ _ hF rfl rfl rfl rfl (.inl hz) hl w hv
end Go.Proofs.YtnmekbbnglkmcaaGreat
namespace Go.Proofs.YtnmekbbnglkmcaaGreat
open Go.RowKit Go.Lib
set_option maxHeartbeats 1000000 in
theorem offer_out (v : Value) (l : List UInt8) (b z0 : Int) (k : Nat) (z : Int) (h : ringF l.length b z0 = 70) (hl : l.length ≤ 140737488355328) (w : World) (hv : IsArg w v l) :
 Calls Tryz.prog 28 #[.agg #[v], .int .i64 b, .int .i64 z0, .int .u16 (k : Nat), .int .i64 z] w (Wrote w v l l 70) := by
 have HV := Lib.hid hv
 have HL := Lib.hid hl
 have HMX := Lib.hid (show l.length ≤ maxLen by unfold maxLen; omega)
 have HF := Lib.hid h
 obtain ⟨va, vc, rfl, _⟩ := hv.shape
 obtain ⟨t1, t2, t3, t4⟩ := three_new w (.slice va l.length vc) #[.int .i64 z] (.slice none 0 0) 26 3 26
 have HB := Lib.hid t4
 have HM := Lib.hid t1
 have HH := Lib.hid t2
 have HR := Lib.hid t3
 clear hv hl h t1 t2 t3 t4
 go_enter Tryz.func28, Tryz.ntmps28
 go_wp2_with fail
 refine (ringFault_any _ _ _ HMX.out _ _ _ HF.out _).mono ?_
 rintro e w1 ⟨rfl, hb⟩
 replace HM := Lib.hid (row_keep HM.out hb)
 replace HH := Lib.hid (row_keep HH.out hb)
 replace HR := Lib.hid (row_keep HR.out hb)
 replace HB := Lib.hid (HB.out.trans (hb.mono HB.out.size))
 clear hb
 obtain ⟨c0, _⟩ := one_cell HM.out
 go_wp2_with fail
 refine (ringSame_any _ l _ (HV.out.below HB.out) HL.out).mono ?_
 rintro e w2 ⟨r, rfl, hr, hb⟩
 have HR2 := Lib.hid (row_keep HR.out hb)
 have HB2 := Lib.hid (HB.out.trans (hb.mono HB.out.size))
 have HO := Lib.hid (ownsRow_base (base' := w.heap.size) hr HB.out.size)
 obtain ⟨ra, rc, rfl, _⟩ := (isArg_of_owns hr).shape
 obtain ⟨r0, f0⟩ := one_cell HR2.out
 clear hb hr c0
 go_wp2
 refine bodyPost_ret (v := .tuple #[.agg #[.slice ra l.length rc], .int .i64 70]) (by simp [results, Tryz.results28, go_sem, r0]) rfl ⟨ra, rc, rfl, .inr (owns_far HO.out HR2.out tneMU _), HB2.out.setCell (by simp; omega) _⟩
structure RngOfferX where
 (b0 b1 b2 b3 b4 b5 b6 b7 b8 b9 : Bool)
 (s22 s23 s24 s25 s26 s27 s28 s29 s11 : Value)
set_option maxHeartbeats 4000000 in
set_option maxRecDepth 100000 in
theorem offer_in (v : Value) (l : List UInt8) (w : World) (hv : IsArg w v l) (B N at_ : Nat) (hok : RingOk l.length B N) (hi : at_ < 65536) (z : Int) (y : Nat) (hy : (z % 65536).toNat = y) :
 Calls Tryz.prog 28 #[.agg #[v], .int .i64 (B : Nat), .int .i64 (N : Nat), .int .u16 (at_ : Nat), .int .i64 z] w (Wrote w v l (offerD l B N at_ y) 0) := by
 obtain ⟨ix, hix⟩ : ∃ p, p = B + 16 * N + 2 := ⟨_, rfl⟩
 obtain ⟨sq, hsq⟩ : ∃ p, p = B + 16 * N + 4 := ⟨_, rfl⟩
 obtain ⟨p, hp⟩ : ∃ p, B + 16 * N + 4 + 2 * (at_ % N) = p := ⟨_, rfl⟩
 obtain ⟨H, hH⟩ : ∃ H, H = offerD l B N at_ y := ⟨_, rfl⟩
 rw [← hH]
 have hN := hok.right.le
 have hsz := sizeN_le N
 have hfit := hok.fits
 have hL := hok.few
 have HL := Lib.hid hL
 have HB8 := Lib.hid (show B ≤ 8192 by omega)
 have HN := Lib.hid hN
 have HMX := Lib.hid (show l.length ≤ maxLen by unfold maxLen; omega)
 have HF := Lib.hid (show ringF l.length (B : Int) (N : Int) = 0 by rw [ringF, if_pos hok.ok])
 have HV := Lib.hid hv
 obtain ⟨j, hj⟩ : ∃ j, at_ % N = j := ⟨_, rfl⟩
 have hjn : j < N := by rw [← hj]; exact Nat.mod_lt _ (by omega)
 rw [hj] at hp
 have HJ := Lib.hid hj
 have HI := Lib.hid hi
 have HQ := Lib.hid (show ((j : Nat) : Int) * 2 = ((2 * j : Nat) : Int) by omega)
 have HT := Lib.hid (show ((B + 16 * N + 4 : Nat) : Int) + ((2 * j : Nat) : Int) = (p : Nat) by omega)
 have HQ1 := Lib.hid (show -9223372036854775808 ≤ ((2 * j : Nat) : Int) ∧ ((2 * j : Nat) : Int) ≤ 9223372036854775807 by omega)
 have HT1 := Lib.hid (show -9223372036854775808 ≤ ((p : Nat) : Int) ∧ ((p : Nat) : Int) ≤ 9223372036854775807 by omega)
 have hpl : p + 2 ≤ l.length := by omega
 have HPL := Lib.hid hpl
 have hixl : ix + 2 ≤ l.length := by omega
 have hpe : sq + 2 * j = p := by omega
 have HP := Lib.hid (show ∀ W, Calls Tryz.prog 62 #[.int .i64 (B : Nat), .int .i64 (N : Nat)] W fun e w' => ∃ a b, e = .returned (.agg #[.int .i64 (ix : Nat), .func (.func 116) #[] #[.pointer (some ⟨a, 0, none⟩), .pointer (some ⟨b, 0, none⟩)]]) ∧ RowAt w' a b (sq : Nat) 2 ∧ Below W.heap.size W w' from fun W => availPart_any B N ix sq hix.symm hsq.symm (by omega) hN.2 W)
 obtain ⟨va, vc, rfl, _⟩ := hv.shape
 obtain ⟨t1, t2, t3, t4⟩ := three_new w (.slice va l.length vc) #[.int .i64 z] (.slice none 0 0) 26 3 26
 have HB := Lib.hid t4
 have HM := Lib.hid t1
 have HH := Lib.hid t2
 have HR := Lib.hid t3
 have hHH : H = putAt (putAt l p 2 y) ix 2 (at_ + 1) := by rw [hH, offerD, hj, hix, ← hp]
 have HLA := Lib.hid (show ∀ W, Below w.heap.size w W → W.heap[w.heap.size + 1]? = some (.cells #[.int .i64 z] 3 (0, 0)) → ∀ a b, RowAt W a b (sq : Nat) 2 → Calls Tryz.prog 61 #[.agg #[.slice va l.length vc], .agg #[.int .i64 (ix : Nat), .func (.func 116) #[] #[.pointer (some ⟨a, 0, none⟩), .pointer (some ⟨b, 0, none⟩)]], .int .i64 (N : Nat), .int .u16 (at_ : Nat), .func (.func 63) #[] #[.pointer (some ⟨w.heap.size + 1, 0, none⟩)]] W fun e w' => ∃ ra rc, e = .returned (.agg #[.slice ra l.length rc]) ∧ Given w' w.heap.size (.slice va l.length vc) l (.slice ra l.length rc) H ∧ Below W.heap.size W w' from
  fun W hb hh a b hr => (laid_offer _ l W (hv.below hb) hL ix sq a b N at_ j p (w.heap.size + 1) hr hN hi hj hpe hpl hixl z y hy hh).mono fun e w' ⟨ra, rc, h1, h2, h3⟩ => ⟨ra, rc, h1, by rw [hHH]; exact h2.base hb.size, h3⟩)
 clear hN hsz hfit hL hv hj hi hpl hok hp hjn hix hsq hixl hpe hH hHH t1 t2 t3 t4 hy
 go_enter Tryz.func28, Tryz.ntmps28
 go_wp2_with fail
 refine (ringFault_any _ _ _ HMX.out _ _ _ HF.out _).mono ?_
 rintro e w1 ⟨rfl, hb⟩
 replace HM := Lib.hid (row_keep HM.out hb)
 replace HH := Lib.hid (row_keep HH.out hb)
 replace HR := Lib.hid (row_keep HR.out hb)
 replace HB := Lib.hid (HB.out.trans (hb.mono HB.out.size))
 clear hb
 have HMW := Lib.hid (show ∀ W, Below w1.heap.size w1 W → W.heap[w.heap.size]? = some (.cells #[.slice va l.length vc] 26 (0, 0)) from fun W h => row_keep HM.out h)
 have HRW := Lib.hid (show ∀ W, Below w1.heap.size w1 W → W.heap[w.heap.size + 1 + 1]? = some (.cells #[.slice none 0 0] 26) from fun W h => row_keep HR.out h)
 have HLD := Lib.hid (show ∀ W, Below w1.heap.size w1 W → ∀ a b, RowAt W a b (sq : Nat) 2 → Calls Tryz.prog 61 #[.agg #[.slice va l.length vc], .agg #[.int .i64 (ix : Nat), .func (.func 116) #[] #[.pointer (some ⟨a, 0, none⟩), .pointer (some ⟨b, 0, none⟩)]], .int .i64 (N : Nat), .int .u16 (at_ : Nat), .func (.func 63) #[] #[.pointer (some ⟨w.heap.size + 1, 0, none⟩)]] W fun e w' => ∃ ra rc, e = .returned (.agg #[.slice ra l.length rc]) ∧ Given w' w.heap.size (.slice va l.length vc) l (.slice ra l.length rc) H ∧ Below W.heap.size W w' from fun W h => HLA.out W (HB.out.trans (h.mono HB.out.size)) (row_keep HH.out h))
 clear HLA
 go_wp2_with fail
 refine wp_region_rec (X := RngOfferX) (by kernel_rfl) (by kernel_rfl) (fun x => #[x.b0, x.b1, x.b2, x.b3, x.b4, x.b5, x.b6, x.b7, x.b8, x.b9]) (fun x => { tmps := #[.agg #[.slice va l.length vc], .int .i64 (B : Nat), .int .i64 (N : Nat), .int .u16 (at_ : Nat), .int .i64 z, .pointer (some ⟨w.heap.size, 0, none⟩), undef, undef, undef, .pointer (some ⟨w.heap.size + 1, 0, none⟩), .pointer (some ⟨w.heap.size + 1 + 1, 0, none⟩), x.s11, .int .i64 0, .agg #[.slice va l.length vc], .int .i64 (B : Nat), .int .i64 (N : Nat), .int .i64 0, .int .i64 0, .bool false, undef, undef, undef, x.s22, x.s23, x.s24, x.s25, x.s26, x.s27, x.s28, x.s29], defers := [] }) (fun x W => (x.b0 = true → x.s22 = .agg #[.slice va l.length vc]) ∧ (x.b1 = true → x.s23 = .int .i64 (B : Nat)) ∧ (x.b2 = true → x.s24 = .int .i64 (N : Nat)) ∧ (x.b4 = true → x.s26 = .int .i64 (N : Nat)) ∧ (x.b5 = true → x.s27 = .int .u16 (at_ : Nat)) ∧ (x.b6 = true → x.s28 = .func (.func 63) #[] #[.pointer (some ⟨w.heap.size + 1, 0, none⟩)]) ∧ (x.b9 = true → x.s11 = .int .i64 0) ∧ (x.b8 = true → x.b0 = true ∧ x.b3 = true ∧ x.b7 = true) ∧ (x.b7 = false → x.b3 = true → ∃ a b, x.s25 = .agg #[.int .i64 (ix : Nat), .func (.func 116) #[] #[.pointer (some ⟨a, 0, none⟩), .pointer (some ⟨b, 0, none⟩)]] ∧ RowAt W a b (sq : Nat) 2) ∧ (x.b7 = true → ∃ ra rc, x.s29 = .agg #[.slice ra l.length rc] ∧ Given W w.heap.size (.slice va l.length vc) l (.slice ra l.length rc) H) ∧ (x.b8 = true → ∃ ra rc, W.heap[w.heap.size + 1 + 1]? = some (.cells #[.slice ra l.length rc] 26 (0, 0)) ∧ Given W w.heap.size (.slice va l.length vc) l (.slice ra l.length rc) H) ∧ (x.b8 = false → Below w1.heap.size w1 W) ∧ (Below w.heap.size w W) ∧ (x.b7 = true → x.b3 = true)) ⟨false, false, false, false, false, false, false, false, false, false, undef, undef, undef, undef, undef, undef, undef, undef, .int .i64 0⟩ rfl rfl ⟨(fun h => by cases h), (fun h => by cases h), (fun h => by cases h), (fun h => by cases h), (fun h => by cases h), (fun h => by cases h), (fun h => by cases h), (fun h => by cases h), (fun _ h => by cases h), (fun h => by cases h), (fun h => by cases h), (fun _ => (Below.refl _ _).drew), HB.out.drew, (fun h => by cases h)⟩ (fun _ => rfl) ?hstep ?hdone
 case hstep =>
  rintro ⟨b0, b1, b2, b3, b4, b5, b6, b7, b8, b9, s22, s23, s24, s25, s26, s27, s28, s29, s11⟩ W hI i hi
  dsimp only at hI hi ⊢
  have HI := Lib.hid hI
  clear hI
  rw [Region.ready, List.mem_filter, List.mem_range] at hi
  obtain ⟨hlt, hp⟩ := hi
  have hi7 : i = 0 ∨ i = 1 ∨ i = 2 ∨ i = 3 ∨ i = 4 ∨ i = 5 ∨ i = 6 ∨ i = 7 ∨ i = 8 ∨ i = 9 := by simp at hlt; omega
  clear hlt
  rcases hi7 with rfl | rfl | rfl | rfl | rfl | rfl | rfl | rfl | rfl | rfl
  all_goals simp [Region.binds] at hp
  · obtain rfl : b0 = false := by revert hp; cases b0 <;> simp
    clear hp
    refine inv_op (o := ⟨some 22, _, _, _, _, _⟩) rfl (fun K' hK' => ?_)
    have gE := HI.out.2.2.2.2.2.2.2.1
    have gW := HI.out.2.2.2.2.2.2.2.2.2.2.2.1
    have hb8 : b8 = false := by cases b8 with | false => rfl | true => exact absurd (gE rfl).1 (by decide)
    subst hb8
    obtain ⟨hc1, hc2⟩ := one_cell (HMW.out W (gW rfl))
    go_simp
    exact hK'.out _ _ ⟨.mk .., rfl, rfl, Nxt (Nxt (Nxt (Nx4 (Upd (fun e => by cases e))))) ((Upd (fun _ => rfl)) HI.out)⟩
  · obtain rfl : b1 = false := by revert hp; cases b1 <;> simp
    clear hp
    refine inv_op (o := ⟨some 23, _, _, _, _, _⟩) rfl (fun K' hK' => ?_)
    go_simp
    exact hK'.out _ _ ⟨.mk .., rfl, rfl, Nxt (Upd (fun _ => rfl)) HI.out⟩
  · obtain rfl : b2 = false := by revert hp; cases b2 <;> simp
    clear hp
    refine inv_op (o := ⟨some 24, _, _, _, _, _⟩) rfl (fun K' hK' => ?_)
    go_simp
    exact hK'.out _ _ ⟨.mk .., rfl, rfl, Nxt (Nxt (Upd (fun _ => rfl))) HI.out⟩
  · obtain ⟨rfl, e1, e2⟩ : b3 = false ∧ b1 = true ∧ b2 = true := by revert hp; cases b3 <;> cases b1 <;> cases b2 <;> simp
    clear hp
    obtain rfl := (HI.out.2.1) e1
    obtain rfl := (HI.out.2.2.1) e2
    refine inv_op (o := ⟨some 25, _, _, _, _, _⟩) rfl (fun K' hK' => ?_)
    have gE := HI.out.2.2.2.2.2.2.2.1
    have gC := HI.out.2.2.2.2.2.2.2.2.2.2.2.2.2
    have hb8 : b8 = false := by cases b8 with | false => rfl | true => exact absurd (gE rfl).2.1 (by decide)
    subst hb8
    have hb7 : b7 = false := by cases b7 with | false => rfl | true => exact absurd (gC rfl) (by decide)
    subst hb7
    go_simp
    refine (HP.out W).mono ?_
    rintro e w2 ⟨a, b, rfl, hr, bn⟩
    obtain ⟨h0, h1, h2, h4, h5, h6, h9, gE, gR, gL, gB, gW, gO, gC⟩ := HI.out
    exact hK'.out _ _ ⟨.mk .., rfl, rfl, h0, h1, h2, h4, h5, h6, h9, (fun e => by cases e), (fun _ _ => ⟨a, b, rfl, hr⟩), (fun e => by cases e), (fun e => by cases e), (fun e => (gW e).trans (bn.mono (gW e).size)), (gO.trans (bn.mono gO.size)), (fun _ => rfl)⟩
  · obtain rfl : b4 = false := by revert hp; cases b4 <;> simp
    clear hp
    refine inv_op (o := ⟨some 26, _, _, _, _, _⟩) rfl (fun K' hK' => ?_)
    go_simp
    exact hK'.out _ _ ⟨.mk .., rfl, rfl, Nxt (Nxt (Nxt (Upd (fun _ => rfl)))) HI.out⟩
  · obtain rfl : b5 = false := by revert hp; cases b5 <;> simp
    clear hp
    refine inv_op (o := ⟨some 27, _, _, _, _, _⟩) rfl (fun K' hK' => ?_)
    go_simp
    exact hK'.out _ _ ⟨.mk .., rfl, rfl, Nx4 (Upd (fun _ => rfl)) HI.out⟩
  · obtain rfl : b6 = false := by revert hp; cases b6 <;> simp
    clear hp
    refine inv_op (o := ⟨some 28, _, _, _, _, _⟩) rfl (fun K' hK' => ?_)
    go_simp
    exact hK'.out _ _ ⟨.mk .., rfl, rfl, Nxt (Nx4 (Upd (fun _ => rfl))) HI.out⟩
  · have hn7 : b7 = false := by revert hp; cases b7 <;> simp
    have e0 : b0 = true := by revert hp; cases b0 <;> simp
    have e3 : b3 = true := by revert hp; cases b3 <;> simp
    have e4 : b4 = true := by revert hp; cases b4 <;> simp
    have e5 : b5 = true := by revert hp; cases b5 <;> simp
    have e6 : b6 = true := by revert hp; cases b6 <;> simp
    clear hp
    obtain rfl := (HI.out.1) e0
    obtain rfl := (HI.out.2.2.2.1) e4
    obtain rfl := (HI.out.2.2.2.2.1) e5
    obtain rfl := (HI.out.2.2.2.2.2.1) e6
    subst hn7
    refine inv_op (o := ⟨some 29, _, _, _, _, _⟩) rfl (fun K' hK' => ?_)
    have gE := HI.out.2.2.2.2.2.2.2.1
    have gR := HI.out.2.2.2.2.2.2.2.2.1
    have gW := HI.out.2.2.2.2.2.2.2.2.2.2.2.1
    have hb8 : b8 = false := by cases b8 with | false => rfl | true => exact absurd (gE rfl).2.2 (by decide)
    subst hb8
    obtain ⟨a, b, rfl, hr⟩ := gR rfl e3
    go_simp
    refine (HLD.out W (gW rfl) a b hr).mono ?_
    rintro e w2 ⟨ra, rc, rfl, hg, bn⟩
    obtain ⟨h0, h1, h2, h4, h5, h6, h9, gE, gR, gL, gB, gW, gO, gC⟩ := HI.out
    exact hK'.out _ _ ⟨.mk .., rfl, rfl, h0, h1, h2, h4, h5, h6, h9, (fun e => by cases e), (fun e => by cases e), (fun _ => ⟨ra, rc, rfl, hg⟩), (fun e => by cases e), (fun e => (gW e).trans (bn.mono (gW e).size)), (gO.trans (bn.mono gO.size)), (fun _ => e3)⟩
  · have hn8 : b8 = false := by revert hp; cases b8 <;> simp
    have e0 : b0 = true := by revert hp; cases b0 <;> simp
    have e1 : b1 = true := by revert hp; cases b1 <;> simp
    have e2 : b2 = true := by revert hp; cases b2 <;> simp
    have e3 : b3 = true := by revert hp; cases b3 <;> simp
    have e4 : b4 = true := by revert hp; cases b4 <;> simp
    have e5 : b5 = true := by revert hp; cases b5 <;> simp
    have e6 : b6 = true := by revert hp; cases b6 <;> simp
    have e7 : b7 = true := by revert hp; cases b7 <;> simp
    clear hp
    subst hn8
    refine inv_op (o := ⟨none, _, _, _, _, _⟩) rfl (fun K' hK' => ?_)
    have gL := HI.out.2.2.2.2.2.2.2.2.2.1
    have gW := HI.out.2.2.2.2.2.2.2.2.2.2.2.1
    obtain ⟨ra, rc, rfl, hg⟩ := gL e7
    obtain ⟨hc1, hc2⟩ := one_cell (HRW.out W (gW rfl))
    have hrow := HRW.out W (gW rfl)
    go_simp
    obtain ⟨h0, h1, h2, h4, h5, h6, h9, gE, gR, gL, gB, gW, gO, gC⟩ := HI.out
    exact hK'.out _ _ ⟨.mk .., rfl, rfl, h0, h1, h2, h4, h5, h6, h9, (fun _ => ⟨e0, e3, e7⟩), (fun e7b _ => by rw [e7] at e7b; cases e7b), (fun _ => ⟨ra, rc, rfl, hg.far hrow tneMU _⟩), (fun _ => ⟨ra, rc, one_set hrow _, hg.far hrow tneMU _⟩), (fun e => by cases e), (gO.setCell (by simp; omega) _), gC⟩
  · obtain rfl : b9 = false := by revert hp; cases b9 <;> simp
    clear hp
    refine inv_op (o := ⟨some 11, _, _, _, _, _⟩) rfl (fun K' hK' => ?_)
    go_simp
    exact hK'.out _ _ ⟨.mk .., rfl, rfl, Nxt (Nxt (Nx4 (Upd (fun _ => rfl)))) HI.out⟩
 case hdone =>
  rintro ⟨b0, b1, b2, b3, b4, b5, b6, b7, b8, b9, s22, s23, s24, s25, s26, s27, s28, s29, s11⟩ W hI hall
  dsimp only at hI hall ⊢
  have HI := Lib.hid hI
  clear hI
  obtain rfl : b0 = true := hall 0 (by decide)
  obtain rfl : b1 = true := hall 1 (by decide)
  obtain rfl : b2 = true := hall 2 (by decide)
  obtain rfl : b3 = true := hall 3 (by decide)
  obtain rfl : b4 = true := hall 4 (by decide)
  obtain rfl : b5 = true := hall 5 (by decide)
  obtain rfl : b6 = true := hall 6 (by decide)
  obtain rfl : b7 = true := hall 7 (by decide)
  obtain rfl : b8 = true := hall 8 (by decide)
  obtain rfl : b9 = true := hall 9 (by decide)
  obtain rfl := (HI.out.2.2.2.2.2.2.1) rfl
  have gB := HI.out.2.2.2.2.2.2.2.2.2.2.1
  have gO := HI.out.2.2.2.2.2.2.2.2.2.2.2.2.1
  clear HI hall
  obtain ⟨ra, rc, hrow, hg⟩ := gB rfl
  obtain ⟨r0, f0⟩ := one_cell hrow
  have HG := Lib.hid hg
  have HO := Lib.hid gO
  clear hrow hg gB gO f0
  go_wp2
  refine bodyPost_ret (v := .tuple #[.agg #[.slice ra l.length rc], .int .i64 0]) (by simp [results, Tryz.results28, go_sem, r0]) rfl ⟨ra, rc, rfl, HG.out, HO.out⟩
theorem offer_any (v : Value) (l : List UInt8) (b z0 : Int) (k : Nat) (hk : k < 65536) (z : Int) (F : Int) (G : List UInt8) (hF : ringF l.length b z0 = F) (hG : offerX l b z0 k z = G) (hl : l.length ≤ 140737488355328) (w : World) (hv : IsArg w v l) :
 Calls Tryz.prog 28 #[.agg #[v], .int .i64 b, .int .i64 z0, .int .u16 (k : Nat), .int .i64 z] w (Wrote w v l G F) := by
 by_cases h0 : F = 0
 · subst h0
   obtain ⟨B, N, rfl, rfl, hok⟩ := ring_in hF
   rw [offerX, if_pos hF, Int.toNat_natCast, Int.toNat_natCast] at hG
   rw [← hG]
   exact offer_in v l w hv B N k hok hk z _ rfl
 · have h7 := ringF_two (by rw [hF]; exact h0)
   obtain rfl : F = 70 := by omega
   rw [offerX, if_neg (by rw [h7]; decide)] at hG
   subst hG
   exact offer_out v l b z0 k z h7 hl w hv
set_option maxHeartbeats 1000000 in
theorem return_out (v : Value) (l : List UInt8) (b z0 : Int) (k : Nat) (y0 y1 : Nat) (h : ringF l.length b z0 = 70) (hl : l.length ≤ 140737488355328) (w : World) (hv : IsArg w v l) :
 Calls Tryz.prog 46 #[.agg #[v], .int .i64 b, .int .i64 z0, .int .u16 (k : Nat), .agg #[.int .u32 (y0 : Nat), .int .u32 (y1 : Nat)]] w (Wrote w v l l 70) := by
 have HV := Lib.hid hv
 have HL := Lib.hid hl
 have HMX := Lib.hid (show l.length ≤ maxLen by unfold maxLen; omega)
 have HF := Lib.hid h
 obtain ⟨va, vc, rfl, _⟩ := hv.shape
 obtain ⟨t1, t2, t3, t4⟩ := three_new w (.slice va l.length vc) #[.int .u32 (y0 : Nat), .int .u32 (y1 : Nat)] (.slice none 0 0) 26 53 26
 have HB := Lib.hid t4
 have HM := Lib.hid t1
 have HH := Lib.hid t2
 have HR := Lib.hid t3
 clear hv hl h t1 t2 t3 t4
 go_enter Tryz.func46, Tryz.ntmps46
 go_wp2_with fail
 refine (ringFault_any _ _ _ HMX.out _ _ _ HF.out _).mono ?_
 rintro e w1 ⟨rfl, hb⟩
 replace HM := Lib.hid (row_keep HM.out hb)
 replace HH := Lib.hid (row_keep HH.out hb)
 replace HR := Lib.hid (row_keep HR.out hb)
 replace HB := Lib.hid (HB.out.trans (hb.mono HB.out.size))
 clear hb
 obtain ⟨c0, _⟩ := one_cell HM.out
 go_wp2_with fail
 refine (ringSame_any _ l _ (HV.out.below HB.out) HL.out).mono ?_
 rintro e w2 ⟨r, rfl, hr, hb⟩
 have HR2 := Lib.hid (row_keep HR.out hb)
 have HB2 := Lib.hid (HB.out.trans (hb.mono HB.out.size))
 have HO := Lib.hid (ownsRow_base (base' := w.heap.size) hr HB.out.size)
 obtain ⟨ra, rc, rfl, _⟩ := (isArg_of_owns hr).shape
 obtain ⟨r0, f0⟩ := one_cell HR2.out
 clear hb hr c0
 go_wp2
 refine bodyPost_ret (v := .tuple #[.agg #[.slice ra l.length rc], .int .i64 70]) (by simp [results, Tryz.results46, go_sem, r0]) rfl ⟨ra, rc, rfl, .inr (owns_far HO.out HR2.out tneMU _), HB2.out.setCell (by simp; omega) _⟩
structure RngReturnX where
 (b0 b1 b2 b3 b4 b5 b6 b7 b8 b9 : Bool)
 (s22 s23 s24 s25 s26 s27 s28 s29 s11 : Value)
set_option maxHeartbeats 4000000 in
set_option maxRecDepth 100000 in
theorem return_in (v : Value) (l : List UInt8) (w : World) (hv : IsArg w v l) (B N at_ : Nat) (hok : RingOk l.length B N) (hi : at_ < 65536) (y0 y1 : Nat) (hy0 : y0 < 4294967296) (hy1 : y1 < 4294967296) :
 Calls Tryz.prog 46 #[.agg #[v], .int .i64 (B : Nat), .int .i64 (N : Nat), .int .u16 (at_ : Nat), .agg #[.int .u32 (y0 : Nat), .int .u32 (y1 : Nat)]] w (Wrote w v l (returnD l B N at_ y0 y1) 0) := by
 obtain ⟨ix, hix⟩ : ∃ p, p = B + secN N + 2 := ⟨_, rfl⟩
 obtain ⟨sq, hsq⟩ : ∃ p, p = B + secN N + 4 := ⟨_, rfl⟩
 obtain ⟨p, hp⟩ : ∃ p, B + secN N + 4 + 8 * (at_ % N) = p := ⟨_, rfl⟩
 obtain ⟨H, hH⟩ : ∃ H, H = returnD l B N at_ y0 y1 := ⟨_, rfl⟩
 rw [← hH]
 have hN := hok.right.le
 have hsz := sizeN_le N
 have hfit := hok.fits
 have hL := hok.few
 have HL := Lib.hid hL
 have HB8 := Lib.hid (show B ≤ 8192 by omega)
 have HN := Lib.hid hN
 have HMX := Lib.hid (show l.length ≤ maxLen by unfold maxLen; omega)
 have HF := Lib.hid (show ringF l.length (B : Int) (N : Int) = 0 by rw [ringF, if_pos hok.ok])
 have HV := Lib.hid hv
 obtain ⟨j, hj⟩ : ∃ j, at_ % N = j := ⟨_, rfl⟩
 have hjn : j < N := by rw [← hj]; exact Nat.mod_lt _ (by omega)
 rw [hj] at hp
 have HJ := Lib.hid hj
 have HI := Lib.hid hi
 have HQ := Lib.hid (show ((j : Nat) : Int) * 8 = ((8 * j : Nat) : Int) by omega)
 have HT := Lib.hid (show ((B + secN N + 4 : Nat) : Int) + ((8 * j : Nat) : Int) = (p : Nat) by omega)
 have HQ1 := Lib.hid (show -9223372036854775808 ≤ ((8 * j : Nat) : Int) ∧ ((8 * j : Nat) : Int) ≤ 9223372036854775807 by omega)
 have HT1 := Lib.hid (show -9223372036854775808 ≤ ((p : Nat) : Int) ∧ ((p : Nat) : Int) ≤ 9223372036854775807 by omega)
 have hpl : p + 8 ≤ l.length := by omega
 have HPL := Lib.hid hpl
 have hixl : ix + 2 ≤ l.length := by omega
 have hpe : sq + 8 * j = p := by omega
 have HP := Lib.hid (show ∀ W, Calls Tryz.prog 54 #[.int .i64 (B : Nat), .int .i64 (N : Nat)] W fun e w' => ∃ a b, e = .returned (.agg #[.int .i64 (ix : Nat), .func (.func 116) #[] #[.pointer (some ⟨a, 0, none⟩), .pointer (some ⟨b, 0, none⟩)]]) ∧ RowAt w' a b (sq : Nat) 8 ∧ Below W.heap.size W w' from fun W => usedPart_any B N ix sq hix.symm hsq.symm (by omega) hN.2 W)
 obtain ⟨va, vc, rfl, _⟩ := hv.shape
 obtain ⟨t1, t2, t3, t4⟩ := three_new w (.slice va l.length vc) #[.int .u32 (y0 : Nat), .int .u32 (y1 : Nat)] (.slice none 0 0) 26 53 26
 have HB := Lib.hid t4
 have HM := Lib.hid t1
 have HH := Lib.hid t2
 have HR := Lib.hid t3
 have hHH : H = putAt (putAt (putAt l p 4 y0) (p + 4) 4 y1) ix 2 (at_ + 1) := by rw [hH, returnD, hj, hix, ← hp]
 have HLA := Lib.hid (show ∀ W, Below w.heap.size w W → W.heap[w.heap.size + 1]? = some (.cells #[.int .u32 (y0 : Nat), .int .u32 (y1 : Nat)] 53) → ∀ a b, RowAt W a b (sq : Nat) 8 → Calls Tryz.prog 61 #[.agg #[.slice va l.length vc], .agg #[.int .i64 (ix : Nat), .func (.func 116) #[] #[.pointer (some ⟨a, 0, none⟩), .pointer (some ⟨b, 0, none⟩)]], .int .i64 (N : Nat), .int .u16 (at_ : Nat), .func (.func 82) #[] #[.pointer (some ⟨w.heap.size + 1, 0, none⟩)]] W fun e w' => ∃ ra rc, e = .returned (.agg #[.slice ra l.length rc]) ∧ Given w' w.heap.size (.slice va l.length vc) l (.slice ra l.length rc) H ∧ Below W.heap.size W w' from
  fun W hb hh a b hr => (laid_return _ l W (hv.below hb) hL ix sq a b N at_ j p (w.heap.size + 1) hr hN hi hj hpe hpl hixl y0 y1 hy0 hy1 hh).mono fun e w' ⟨ra, rc, h1, h2, h3⟩ => ⟨ra, rc, h1, by rw [hHH]; exact h2.base hb.size, h3⟩)
 clear hN hsz hfit hL hv hj hi hpl hok hp hjn hix hsq hixl hpe hH hHH t1 t2 t3 t4 hy0 hy1
 go_enter Tryz.func46, Tryz.ntmps46
 go_wp2_with fail
 refine (ringFault_any _ _ _ HMX.out _ _ _ HF.out _).mono ?_
 rintro e w1 ⟨rfl, hb⟩
 replace HM := Lib.hid (row_keep HM.out hb)
 replace HH := Lib.hid (row_keep HH.out hb)
 replace HR := Lib.hid (row_keep HR.out hb)
 replace HB := Lib.hid (HB.out.trans (hb.mono HB.out.size))
 clear hb
 have HMW := Lib.hid (show ∀ W, Below w1.heap.size w1 W → W.heap[w.heap.size]? = some (.cells #[.slice va l.length vc] 26 (0, 0)) from fun W h => row_keep HM.out h)
 have HRW := Lib.hid (show ∀ W, Below w1.heap.size w1 W → W.heap[w.heap.size + 1 + 1]? = some (.cells #[.slice none 0 0] 26) from fun W h => row_keep HR.out h)
 have HLD := Lib.hid (show ∀ W, Below w1.heap.size w1 W → ∀ a b, RowAt W a b (sq : Nat) 8 → Calls Tryz.prog 61 #[.agg #[.slice va l.length vc], .agg #[.int .i64 (ix : Nat), .func (.func 116) #[] #[.pointer (some ⟨a, 0, none⟩), .pointer (some ⟨b, 0, none⟩)]], .int .i64 (N : Nat), .int .u16 (at_ : Nat), .func (.func 82) #[] #[.pointer (some ⟨w.heap.size + 1, 0, none⟩)]] W fun e w' => ∃ ra rc, e = .returned (.agg #[.slice ra l.length rc]) ∧ Given w' w.heap.size (.slice va l.length vc) l (.slice ra l.length rc) H ∧ Below W.heap.size W w' from fun W h => HLA.out W (HB.out.trans (h.mono HB.out.size)) (row_keep HH.out h))
 clear HLA
 go_wp2_with fail
 refine wp_region_rec (X := RngReturnX) (by kernel_rfl) (by kernel_rfl) (fun x => #[x.b0, x.b1, x.b2, x.b3, x.b4, x.b5, x.b6, x.b7, x.b8, x.b9]) (fun x => { tmps := #[.agg #[.slice va l.length vc], .int .i64 (B : Nat), .int .i64 (N : Nat), .int .u16 (at_ : Nat), .agg #[.int .u32 (y0 : Nat), .int .u32 (y1 : Nat)], .pointer (some ⟨w.heap.size, 0, none⟩), undef, undef, undef, .pointer (some ⟨w.heap.size + 1, 0, none⟩), .pointer (some ⟨w.heap.size + 1 + 1, 0, none⟩), x.s11, .int .i64 0, .agg #[.slice va l.length vc], .int .i64 (B : Nat), .int .i64 (N : Nat), .int .i64 0, .int .i64 0, .bool false, undef, undef, undef, x.s22, x.s23, x.s24, x.s25, x.s26, x.s27, x.s28, x.s29], defers := [] }) (fun x W => (x.b0 = true → x.s22 = .agg #[.slice va l.length vc]) ∧ (x.b1 = true → x.s23 = .int .i64 (B : Nat)) ∧ (x.b2 = true → x.s24 = .int .i64 (N : Nat)) ∧ (x.b4 = true → x.s26 = .int .i64 (N : Nat)) ∧ (x.b5 = true → x.s27 = .int .u16 (at_ : Nat)) ∧ (x.b6 = true → x.s28 = .func (.func 82) #[] #[.pointer (some ⟨w.heap.size + 1, 0, none⟩)]) ∧ (x.b9 = true → x.s11 = .int .i64 0) ∧ (x.b8 = true → x.b0 = true ∧ x.b3 = true ∧ x.b7 = true) ∧ (x.b7 = false → x.b3 = true → ∃ a b, x.s25 = .agg #[.int .i64 (ix : Nat), .func (.func 116) #[] #[.pointer (some ⟨a, 0, none⟩), .pointer (some ⟨b, 0, none⟩)]] ∧ RowAt W a b (sq : Nat) 8) ∧ (x.b7 = true → ∃ ra rc, x.s29 = .agg #[.slice ra l.length rc] ∧ Given W w.heap.size (.slice va l.length vc) l (.slice ra l.length rc) H) ∧ (x.b8 = true → ∃ ra rc, W.heap[w.heap.size + 1 + 1]? = some (.cells #[.slice ra l.length rc] 26 (0, 0)) ∧ Given W w.heap.size (.slice va l.length vc) l (.slice ra l.length rc) H) ∧ (x.b8 = false → Below w1.heap.size w1 W) ∧ (Below w.heap.size w W) ∧ (x.b7 = true → x.b3 = true)) ⟨false, false, false, false, false, false, false, false, false, false, undef, undef, undef, undef, undef, undef, undef, undef, .int .i64 0⟩ rfl rfl ⟨(fun h => by cases h), (fun h => by cases h), (fun h => by cases h), (fun h => by cases h), (fun h => by cases h), (fun h => by cases h), (fun h => by cases h), (fun h => by cases h), (fun _ h => by cases h), (fun h => by cases h), (fun h => by cases h), (fun _ => (Below.refl _ _).drew), HB.out.drew, (fun h => by cases h)⟩ (fun _ => rfl) ?hstep ?hdone
 case hstep =>
  rintro ⟨b0, b1, b2, b3, b4, b5, b6, b7, b8, b9, s22, s23, s24, s25, s26, s27, s28, s29, s11⟩ W hI i hi
  dsimp only at hI hi ⊢
  have HI := Lib.hid hI
  clear hI
  rw [Region.ready, List.mem_filter, List.mem_range] at hi
  obtain ⟨hlt, hp⟩ := hi
  have hi7 : i = 0 ∨ i = 1 ∨ i = 2 ∨ i = 3 ∨ i = 4 ∨ i = 5 ∨ i = 6 ∨ i = 7 ∨ i = 8 ∨ i = 9 := by simp at hlt; omega
  clear hlt
  rcases hi7 with rfl | rfl | rfl | rfl | rfl | rfl | rfl | rfl | rfl | rfl
  all_goals simp [Region.binds] at hp
  · obtain rfl : b0 = false := by revert hp; cases b0 <;> simp
    clear hp
    refine inv_op (o := ⟨some 22, _, _, _, _, _⟩) rfl (fun K' hK' => ?_)
    have gE := HI.out.2.2.2.2.2.2.2.1
    have gW := HI.out.2.2.2.2.2.2.2.2.2.2.2.1
    have hb8 : b8 = false := by cases b8 with | false => rfl | true => exact absurd (gE rfl).1 (by decide)
    subst hb8
    obtain ⟨hc1, hc2⟩ := one_cell (HMW.out W (gW rfl))
    go_simp
    exact hK'.out _ _ ⟨.mk .., rfl, rfl, Nxt (Nxt (Nxt (Nx4 (Upd (fun e => by cases e))))) ((Upd (fun _ => rfl)) HI.out)⟩
  · obtain rfl : b1 = false := by revert hp; cases b1 <;> simp
    clear hp
    refine inv_op (o := ⟨some 23, _, _, _, _, _⟩) rfl (fun K' hK' => ?_)
    go_simp
    exact hK'.out _ _ ⟨.mk .., rfl, rfl, Nxt (Upd (fun _ => rfl)) HI.out⟩
  · obtain rfl : b2 = false := by revert hp; cases b2 <;> simp
    clear hp
    refine inv_op (o := ⟨some 24, _, _, _, _, _⟩) rfl (fun K' hK' => ?_)
    go_simp
    exact hK'.out _ _ ⟨.mk .., rfl, rfl, Nxt (Nxt (Upd (fun _ => rfl))) HI.out⟩
  · obtain ⟨rfl, e1, e2⟩ : b3 = false ∧ b1 = true ∧ b2 = true := by revert hp; cases b3 <;> cases b1 <;> cases b2 <;> simp
    clear hp
    obtain rfl := (HI.out.2.1) e1
    obtain rfl := (HI.out.2.2.1) e2
    refine inv_op (o := ⟨some 25, _, _, _, _, _⟩) rfl (fun K' hK' => ?_)
    have gE := HI.out.2.2.2.2.2.2.2.1
    have gC := HI.out.2.2.2.2.2.2.2.2.2.2.2.2.2
    have hb8 : b8 = false := by cases b8 with | false => rfl | true => exact absurd (gE rfl).2.1 (by decide)
    subst hb8
    have hb7 : b7 = false := by cases b7 with | false => rfl | true => exact absurd (gC rfl) (by decide)
    subst hb7
    go_simp
    refine (HP.out W).mono ?_
    rintro e w2 ⟨a, b, rfl, hr, bn⟩
    obtain ⟨h0, h1, h2, h4, h5, h6, h9, gE, gR, gL, gB, gW, gO, gC⟩ := HI.out
    exact hK'.out _ _ ⟨.mk .., rfl, rfl, h0, h1, h2, h4, h5, h6, h9, (fun e => by cases e), (fun _ _ => ⟨a, b, rfl, hr⟩), (fun e => by cases e), (fun e => by cases e), (fun e => (gW e).trans (bn.mono (gW e).size)), (gO.trans (bn.mono gO.size)), (fun _ => rfl)⟩
  · obtain rfl : b4 = false := by revert hp; cases b4 <;> simp
    clear hp
    refine inv_op (o := ⟨some 26, _, _, _, _, _⟩) rfl (fun K' hK' => ?_)
    go_simp
    exact hK'.out _ _ ⟨.mk .., rfl, rfl, Nxt (Nxt (Nxt (Upd (fun _ => rfl)))) HI.out⟩
  · obtain rfl : b5 = false := by revert hp; cases b5 <;> simp
    clear hp
    refine inv_op (o := ⟨some 27, _, _, _, _, _⟩) rfl (fun K' hK' => ?_)
    go_simp
    exact hK'.out _ _ ⟨.mk .., rfl, rfl, Nx4 (Upd (fun _ => rfl)) HI.out⟩
  · obtain rfl : b6 = false := by revert hp; cases b6 <;> simp
    clear hp
    refine inv_op (o := ⟨some 28, _, _, _, _, _⟩) rfl (fun K' hK' => ?_)
    go_simp
    exact hK'.out _ _ ⟨.mk .., rfl, rfl, Nxt (Nx4 (Upd (fun _ => rfl))) HI.out⟩
  · have hn7 : b7 = false := by revert hp; cases b7 <;> simp
    have e0 : b0 = true := by revert hp; cases b0 <;> simp
    have e3 : b3 = true := by revert hp; cases b3 <;> simp
    have e4 : b4 = true := by revert hp; cases b4 <;> simp
    have e5 : b5 = true := by revert hp; cases b5 <;> simp
    have e6 : b6 = true := by revert hp; cases b6 <;> simp
    clear hp
    obtain rfl := (HI.out.1) e0
    obtain rfl := (HI.out.2.2.2.1) e4
    obtain rfl := (HI.out.2.2.2.2.1) e5
    obtain rfl := (HI.out.2.2.2.2.2.1) e6
    subst hn7
    refine inv_op (o := ⟨some 29, _, _, _, _, _⟩) rfl (fun K' hK' => ?_)
    have gE := HI.out.2.2.2.2.2.2.2.1
    have gR := HI.out.2.2.2.2.2.2.2.2.1
    have gW := HI.out.2.2.2.2.2.2.2.2.2.2.2.1
    have hb8 : b8 = false := by cases b8 with | false => rfl | true => exact absurd (gE rfl).2.2 (by decide)
    subst hb8
    obtain ⟨a, b, rfl, hr⟩ := gR rfl e3
    go_simp
    refine (HLD.out W (gW rfl) a b hr).mono ?_
    rintro e w2 ⟨ra, rc, rfl, hg, bn⟩
    obtain ⟨h0, h1, h2, h4, h5, h6, h9, gE, gR, gL, gB, gW, gO, gC⟩ := HI.out
    exact hK'.out _ _ ⟨.mk .., rfl, rfl, h0, h1, h2, h4, h5, h6, h9, (fun e => by cases e), (fun e => by cases e), (fun _ => ⟨ra, rc, rfl, hg⟩), (fun e => by cases e), (fun e => (gW e).trans (bn.mono (gW e).size)), (gO.trans (bn.mono gO.size)), (fun _ => e3)⟩
  · have hn8 : b8 = false := by revert hp; cases b8 <;> simp
    have e0 : b0 = true := by revert hp; cases b0 <;> simp
    have e1 : b1 = true := by revert hp; cases b1 <;> simp
    have e2 : b2 = true := by revert hp; cases b2 <;> simp
    have e3 : b3 = true := by revert hp; cases b3 <;> simp
    have e4 : b4 = true := by revert hp; cases b4 <;> simp
    have e5 : b5 = true := by revert hp; cases b5 <;> simp
    have e6 : b6 = true := by revert hp; cases b6 <;> simp
    have e7 : b7 = true := by revert hp; cases b7 <;> simp
    clear hp
    subst hn8
    refine inv_op (o := ⟨none, _, _, _, _, _⟩) rfl (fun K' hK' => ?_)
    have gL := HI.out.2.2.2.2.2.2.2.2.2.1
    have gW := HI.out.2.2.2.2.2.2.2.2.2.2.2.1
    obtain ⟨ra, rc, rfl, hg⟩ := gL e7
    obtain ⟨hc1, hc2⟩ := one_cell (HRW.out W (gW rfl))
    have hrow := HRW.out W (gW rfl)
    go_simp
    obtain ⟨h0, h1, h2, h4, h5, h6, h9, gE, gR, gL, gB, gW, gO, gC⟩ := HI.out
    exact hK'.out _ _ ⟨.mk .., rfl, rfl, h0, h1, h2, h4, h5, h6, h9, (fun _ => ⟨e0, e3, e7⟩), (fun e7b _ => by rw [e7] at e7b; cases e7b), (fun _ => ⟨ra, rc, rfl, hg.far hrow tneMU _⟩), (fun _ => ⟨ra, rc, one_set hrow _, hg.far hrow tneMU _⟩), (fun e => by cases e), (gO.setCell (by simp; omega) _), gC⟩
  · obtain rfl : b9 = false := by revert hp; cases b9 <;> simp
    clear hp
    refine inv_op (o := ⟨some 11, _, _, _, _, _⟩) rfl (fun K' hK' => ?_)
    go_simp
    exact hK'.out _ _ ⟨.mk .., rfl, rfl, Nxt (Nxt (Nx4 (Upd (fun _ => rfl)))) HI.out⟩
 case hdone =>
  rintro ⟨b0, b1, b2, b3, b4, b5, b6, b7, b8, b9, s22, s23, s24, s25, s26, s27, s28, s29, s11⟩ W hI hall
  dsimp only at hI hall ⊢
  have HI := Lib.hid hI
  clear hI
  obtain rfl : b0 = true := hall 0 (by decide)
  obtain rfl : b1 = true := hall 1 (by decide)
  obtain rfl : b2 = true := hall 2 (by decide)
  obtain rfl : b3 = true := hall 3 (by decide)
  obtain rfl : b4 = true := hall 4 (by decide)
  obtain rfl : b5 = true := hall 5 (by decide)
  obtain rfl : b6 = true := hall 6 (by decide)
  obtain rfl : b7 = true := hall 7 (by decide)
  obtain rfl : b8 = true := hall 8 (by decide)
  obtain rfl : b9 = true := hall 9 (by decide)
  obtain rfl := (HI.out.2.2.2.2.2.2.1) rfl
  have gB := HI.out.2.2.2.2.2.2.2.2.2.2.1
  have gO := HI.out.2.2.2.2.2.2.2.2.2.2.2.2.1
  clear HI hall
  obtain ⟨ra, rc, hrow, hg⟩ := gB rfl
  obtain ⟨r0, f0⟩ := one_cell hrow
  have HG := Lib.hid hg
  have HO := Lib.hid gO
  clear hrow hg gB gO f0
  go_wp2
  refine bodyPost_ret (v := .tuple #[.agg #[.slice ra l.length rc], .int .i64 0]) (by simp [results, Tryz.results46, go_sem, r0]) rfl ⟨ra, rc, rfl, HG.out, HO.out⟩
theorem return_any (v : Value) (l : List UInt8) (b z0 : Int) (k : Nat) (hk : k < 65536) (y0 y1 : Nat) (hy0 : y0 < 4294967296) (hy1 : y1 < 4294967296) (F : Int) (G : List UInt8) (hF : ringF l.length b z0 = F) (hG : returnX l b z0 k y0 y1 = G) (hl : l.length ≤ 140737488355328) (w : World) (hv : IsArg w v l) :
 Calls Tryz.prog 46 #[.agg #[v], .int .i64 b, .int .i64 z0, .int .u16 (k : Nat), .agg #[.int .u32 (y0 : Nat), .int .u32 (y1 : Nat)]] w (Wrote w v l G F) := by
 by_cases h0 : F = 0
 · subst h0
   obtain ⟨B, N, rfl, rfl, hok⟩ := ring_in hF
   rw [returnX, if_pos hF, Int.toNat_natCast, Int.toNat_natCast] at hG
   rw [← hG]
   exact return_in v l w hv B N k hok hk y0 y1 hy0 hy1
 · have h7 := ringF_two (by rw [hF]; exact h0)
   obtain rfl : F = 70 := by omega
   rw [returnX, if_neg (by rw [h7]; decide)] at hG
   subst hG
   exact return_out v l b z0 k y0 y1 h7 hl w hv
end Go.Proofs.YtnmekbbnglkmcaaGreat
