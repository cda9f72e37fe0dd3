/- The law ShaSums returns true for every input, where the two tables hold what is laid. -/
import Derived.Test.YtfaiblngchdpmaaDoorShaRK
import Derived.Test.YtfaiblngchdpmaaDoorShaH
namespace Go.Proofs.YtfaiblngchdpmaaDoor
open Go.RowKit Go.Lib

structure SumsX where
  b0 : Bool
  b1 : Bool
  b2 : Bool
  b3 : Bool
  b4 : Bool
  b5 : Bool
  b6 : Bool
  b7 : Bool
  b8 : Bool
  b9 : Bool
  b10 : Bool
  b11 : Bool
  b12 : Bool
  b13 : Bool
  b14 : Bool
  b15 : Bool
  b16 : Bool
  b17 : Bool
  s9 : Value
  s10 : Value
  s11 : Value
  s12 : Value
  s13 : Value
  s14 : Value
  s15 : Value
  s16 : Value
  s17 : Value
  s18 : Value
  s19 : Value
  s20 : Value
  s21 : Value
  s22 : Value
  s23 : Value
  s24 : Value
  s25 : Value
  s4 : Value
set_option maxHeartbeats 4000000 in
set_option maxRecDepth 100000 in
theorem shaSums_law (w : World) (hL : Laid w) (v : Value) (l : List UInt8) (hv : IsArg w v l) (D : List UInt8) (hD : D.length = 32) :
    Calls Tryd.prog 4 #[v, .agg (byteCells D).toArray] w fun e w' => e = .returned (.bool true) ∧ Below w.heap.size w w' := by
  obtain ⟨a, c, hsh⟩ := hv.1.shape
  have hle : l.length ≤ 9223372036854775807 := by
    rcases hv.1 with ⟨a, c, _, rfl⟩ | ⟨b, off, c, _, h1, h2, _⟩
    · decide
    · unfold maxLen at h2; omega
  obtain ⟨N, hN⟩ : ∃ N, N = l.length := ⟨_, rfl⟩
  rw [← hN] at hsh hle
  subst hsh
  obtain ⟨DV, hDV⟩ : ∃ X, X = (byteCells D).toArray := ⟨_, rfl⟩
  rw [← hDV]
  obtain ⟨W0, hW0⟩ : ∃ W, W = w.alloc (.cells DV 33) := ⟨_, rfl⟩
  obtain ⟨g, hg⟩ : ∃ g, g = w.heap.size := ⟨_, rfl⟩
  have hb0 : Below w.heap.size w W0 := by rw [hW0]; exact (Below.refl _ _).alloc (Nat.le_refl _) _
  have hg0 : W0.heap[g]? = some (.cells DV 33 (0, 0)) := by rw [hW0, hg]; exact World.alloc_heap_new _ _
  have hLW : ∀ W, Below W0.heap.size W0 W → Laid W := fun W hb => hL.below (hb0.trans (hb.mono hb0.size))
  have hVW : ∀ W, Below W0.heap.size W0 W → IsArg W (.slice a N c) l := fun W hb => hv.below (hb0.trans (hb.mono hb0.size))
  obtain ⟨OF, hOF⟩ : ∃ X, X = (byteCells (shaOf l)).toArray := ⟨_, rfl⟩
  obtain ⟨LK, hLK⟩ : ∃ X, X = (byteCells (shaOf (D ++ l))).toArray := ⟨_, rfl⟩
  have HHD := Lib.hid (show ∀ W, Below W0.heap.size W0 W → Calls Tryd.prog 7 #[] W fun e w' => e = .returned (.bool true) ∧ Below W.heap.size W w' from fun W hb => heads_any W (hLW W hb))
  have HDG := Lib.hid (show ∀ W, Below W0.heap.size W0 W → W.heap[g]? = some (.cells DV 33 (0, 0)) from fun W hb => (hb.block _ (Array.getElem?_eq_some_iff.1 hg0).1).trans hg0)
  have HL0 := Lib.hid (heads_any w hL)
  have HBF := Lib.hid hb0
  have HSZ := Lib.hid (show (some 32 : Option Nat) = some DV.size by rw [hDV]; simp [byteCells, hD])
  have HW0 := Lib.hid hW0
  have HG := Lib.hid hg
  clear hW0 hg
  by_cases hlt : 400 < N
  · have HNN := Lib.hid hN
    clear hL hv hDV hb0 hg0 hLW hVW hOF hLK hN
    go_enter Tryd.func4, Tryd.ntmps4
    go_wp2_with fail
    rw [← HW0.out]
    refine (HHD.out W0 (Below.refl _ _)).mono ?_
    rintro e w1 ⟨rfl, hb⟩
    go_wp2_with fail
    go_ret
    exact ⟨rfl, HBF.out.trans (hb.mono HBF.out.size)⟩
  · have hl : l.length ≤ 400 := by omega
    have HOF := Lib.hid (show ∀ W, Below W0.heap.size W0 W → Calls Tryd.prog 15 #[.slice a N c] W fun e w' => e = .returned (.agg OF) ∧ Below W.heap.size W w' from fun W hb => by
      rw [hOF]; exact of_any _ l (by omega) W (hVW W hb) (hLW W hb))
    have HRO := Lib.hid (show ∀ W, Below W0.heap.size W0 W → Calls Tryd.prog 16 #[.slice a N c] W fun e w' => e = .returned (.agg OF) ∧ Below W.heap.size W w' from fun W hb => by
      rw [hOF]; exact refOf_any _ l (by omega) W (hVW W hb))
    have HLK := Lib.hid (show ∀ W, Below W0.heap.size W0 W → Calls Tryd.prog 17 #[.agg DV, .slice a N c] W fun e w' => e = .returned (.agg LK) ∧ Below W.heap.size W w' from fun W hb => by
      rw [hLK, hDV]; exact link_any D hD _ l (by omega) W (hVW W hb) (hLW W hb))
    have HRL := Lib.hid (show ∀ W, Below W0.heap.size W0 W → Calls Tryd.prog 18 #[.agg DV, .slice a N c] W fun e w' => e = .returned (.agg LK) ∧ Below W.heap.size W w' from fun W hb => by
      rw [hLK, hDV]; exact refLink_any D hD _ l (by omega) W (hVW W hb))
    have HEO := Lib.hid (show ∀ W : World, (Op.equalIn 10000 33 (.agg OF) (.agg OF)).run Tryd.prog W = .ok true W from fun W => by
      rw [hOF, equalIn_bytes W 33 5 32 _ _ (shaOf_length _) (shaOf_length _) und32 Tryd.underlying5 size8, decide_eq_true rfl])
    have HEL := Lib.hid (show ∀ W : World, (Op.equalIn 10000 33 (.agg LK) (.agg LK)).run Tryd.prog W = .ok true W from fun W => by
      rw [hLK, equalIn_bytes W 33 5 32 _ _ (shaOf_length _) (shaOf_length _) und32 Tryd.underlying5 size8, decide_eq_true rfl])
    clear hL hv hDV hb0 hg0 hLW hVW hOF hLK hN hl
    go_enter Tryd.func4, Tryd.ntmps4
    go_wp2_with fail
    rw [← HW0.out, ← HG.out]
    refine wp_region_rec (X := SumsX) (by kernel_rfl) (by kernel_rfl) (fun x => #[x.b0, x.b1, x.b2, x.b3, x.b4, x.b5, x.b6, x.b7, x.b8, x.b9, x.b10, x.b11, x.b12, x.b13, x.b14, x.b15, x.b16, x.b17]) (fun x => { tmps := #[.slice a N c, .agg DV, undef, .pointer (some ⟨g, 0, none⟩), x.s4, .slice a N c, .int .i64 N, .bool (decide ((400 : Int) < (N : Int))), undef, x.s9, x.s10, x.s11, x.s12, x.s13, x.s14, x.s15, x.s16, x.s17, x.s18, x.s19, x.s20, x.s21, x.s22, x.s23, x.s24, x.s25], defers := [] }) (fun x W => (x.b0 = true → x.s9 = .slice a N c) ∧ (x.b1 = true → x.s10 = .agg OF) ∧ (x.b2 = true → x.s11 = .slice a N c) ∧ (x.b3 = true → x.s12 = .agg OF) ∧ (x.b4 = true → x.s13 = .bool true) ∧ (x.b5 = true → x.s14 = .bool true) ∧ (x.b6 = true → x.s15 = .agg DV) ∧ (x.b7 = true → x.s16 = .slice a N c) ∧ (x.b8 = true → x.s17 = .agg LK) ∧ (x.b9 = true → x.s18 = .agg DV) ∧ (x.b10 = true → x.s19 = .slice a N c) ∧ (x.b11 = true → x.s20 = .agg LK) ∧ (x.b12 = true → x.s21 = .bool true) ∧ (x.b13 = true → x.s22 = .bool true) ∧ (x.b14 = true → x.s23 = .bool true) ∧ (x.b15 = true → x.s24 = .bool true) ∧ (x.b16 = true → x.s25 = .bool true) ∧ (x.b17 = true → x.s4 = .bool true) ∧ (Below W0.heap.size W0 W)) ⟨false, false, false, false, false, false, false, false, false, false, false, false, false, false, false, false, false, false, undef, undef, undef, undef, undef, undef, undef, undef, undef, undef, undef, undef, undef, undef, undef, undef, undef, .bool false⟩ rfl rfl ⟨(fun h => by cases h), (fun h => by cases h), (fun h => by cases h), (fun h => by cases h), (fun h => by cases h), (fun h => by cases h), (fun h => by cases h), (fun h => by cases h), (fun h => by cases h), (fun h => by cases h), (fun h => by cases h), (fun h => by cases h), (fun h => by cases h), (fun h => by cases h), (fun h => by cases h), (fun h => by cases h), (fun h => by cases h), (fun h => by cases h), (Below.refl _ _).drew⟩ (fun _ => rfl) ?hstep ?hdone
    case hstep =>
      rintro ⟨b0, b1, b2, b3, b4, b5, b6, b7, b8, b9, b10, b11, b12, b13, b14, b15, b16, b17, s9, s10, s11, s12, s13, s14, s15, s16, s17, s18, s19, s20, s21, s22, s23, s24, s25, s4⟩ W hI i hi
      dsimp only at hI hi ⊢
      have HI := Lib.hid hI
      clear hI
      rw [Region.ready, List.mem_filter, List.mem_range] at hi
      obtain ⟨hlt, hp⟩ := hi
      have hi7 : i = 0 ∨ i = 1 ∨ i = 2 ∨ i = 3 ∨ i = 4 ∨ i = 5 ∨ i = 6 ∨ i = 7 ∨ i = 8 ∨ i = 9 ∨ i = 10 ∨ i = 11 ∨ i = 12 ∨ i = 13 ∨ i = 14 ∨ i = 15 ∨ i = 16 ∨ i = 17 := by simp at hlt; omega
      clear hlt
      rcases hi7 with rfl | rfl | rfl | rfl | rfl | rfl | rfl | rfl | rfl | rfl | rfl | rfl | rfl | rfl | rfl | rfl | rfl | rfl
      all_goals simp [Region.binds] at hp
      · have hn0 : b0 = false := by revert hp; cases b0 <;> simp
        clear hp
        subst hn0
        refine inv_op (o := ⟨some 9, _, _, _, _, _⟩) rfl (fun K' hK' => ?_)
        go_simp
        obtain ⟨h0, h1, h2, h3, h4, h5, h6, h7, h8, h9, h10, h11, h12, h13, h14, h15, h16, h17, gW⟩ := HI.out
        exact hK'.out _ _ ⟨⟨true, b1, b2, b3, b4, b5, b6, b7, b8, b9, b10, b11, b12, b13, b14, b15, b16, b17, _, s10, s11, s12, s13, s14, s15, s16, s17, s18, s19, s20, s21, s22, s23, s24, s25, s4⟩, rfl, rfl, (fun _ => rfl), h1, h2, h3, h4, h5, h6, h7, h8, h9, h10, h11, h12, h13, h14, h15, h16, h17, gW⟩
      · have hn1 : b1 = false := by revert hp; cases b1 <;> simp
        have e0 : b0 = true := by revert hp; cases b0 <;> simp
        clear hp
        obtain rfl := (HI.out.1) e0
        subst hn1
        refine inv_op (o := ⟨some 10, _, _, _, _, _⟩) rfl (fun K' hK' => ?_)
        have gW := HI.out.2.2.2.2.2.2.2.2.2.2.2.2.2.2.2.2.2.2
        go_simp
        refine (HOF.out W gW).mono ?_
        rintro e w1 ⟨rfl, bn⟩
        obtain ⟨h0, h1, h2, h3, h4, h5, h6, h7, h8, h9, h10, h11, h12, h13, h14, h15, h16, h17, gW⟩ := HI.out
        exact hK'.out _ _ ⟨⟨b0, true, b2, b3, b4, b5, b6, b7, b8, b9, b10, b11, b12, b13, b14, b15, b16, b17, _, _, s11, s12, s13, s14, s15, s16, s17, s18, s19, s20, s21, s22, s23, s24, s25, s4⟩, rfl, rfl, h0, (fun _ => rfl), h2, h3, h4, h5, h6, h7, h8, h9, h10, h11, h12, h13, h14, h15, h16, h17, (gW.trans (bn.mono gW.size))⟩
      · have hn2 : b2 = false := by revert hp; cases b2 <;> simp
        clear hp
        subst hn2
        refine inv_op (o := ⟨some 11, _, _, _, _, _⟩) rfl (fun K' hK' => ?_)
        go_simp
        obtain ⟨h0, h1, h2, h3, h4, h5, h6, h7, h8, h9, h10, h11, h12, h13, h14, h15, h16, h17, gW⟩ := HI.out
        exact hK'.out _ _ ⟨⟨b0, b1, true, b3, b4, b5, b6, b7, b8, b9, b10, b11, b12, b13, b14, b15, b16, b17, s9, s10, _, s12, s13, s14, s15, s16, s17, s18, s19, s20, s21, s22, s23, s24, s25, s4⟩, rfl, rfl, h0, h1, (fun _ => rfl), h3, h4, h5, h6, h7, h8, h9, h10, h11, h12, h13, h14, h15, h16, h17, gW⟩
      · have hn3 : b3 = false := by revert hp; cases b3 <;> simp
        have e2 : b2 = true := by revert hp; cases b2 <;> simp
        clear hp
        obtain rfl := (HI.out.2.2.1) e2
        subst hn3
        refine inv_op (o := ⟨some 12, _, _, _, _, _⟩) rfl (fun K' hK' => ?_)
        have gW := HI.out.2.2.2.2.2.2.2.2.2.2.2.2.2.2.2.2.2.2
        go_simp
        refine (HRO.out W gW).mono ?_
        rintro e w1 ⟨rfl, bn⟩
        obtain ⟨h0, h1, h2, h3, h4, h5, h6, h7, h8, h9, h10, h11, h12, h13, h14, h15, h16, h17, gW⟩ := HI.out
        exact hK'.out _ _ ⟨⟨b0, b1, b2, true, b4, b5, b6, b7, b8, b9, b10, b11, b12, b13, b14, b15, b16, b17, s9, s10, _, _, s13, s14, s15, s16, s17, s18, s19, s20, s21, s22, s23, s24, s25, s4⟩, rfl, rfl, h0, h1, h2, (fun _ => rfl), h4, h5, h6, h7, h8, h9, h10, h11, h12, h13, h14, h15, h16, h17, (gW.trans (bn.mono gW.size))⟩
      · have hn4 : b4 = false := by revert hp; cases b4 <;> simp
        have e1 : b1 = true := by revert hp; cases b1 <;> simp
        have e3 : b3 = true := by revert hp; cases b3 <;> simp
        clear hp
        obtain rfl := (HI.out.2.1) e1
        obtain rfl := (HI.out.2.2.2.1) e3
        subst hn4
        refine inv_op (o := ⟨some 13, _, _, _, _, _⟩) rfl (fun K' hK' => ?_)
        have hq := HEO.out W
        go_simp
        obtain ⟨h0, h1, h2, h3, h4, h5, h6, h7, h8, h9, h10, h11, h12, h13, h14, h15, h16, h17, gW⟩ := HI.out
        exact hK'.out _ _ ⟨⟨b0, b1, b2, b3, true, b5, b6, b7, b8, b9, b10, b11, b12, b13, b14, b15, b16, b17, s9, _, s11, _, _, s14, s15, s16, s17, s18, s19, s20, s21, s22, s23, s24, s25, s4⟩, rfl, rfl, h0, h1, h2, h3, (fun _ => rfl), h5, h6, h7, h8, h9, h10, h11, h12, h13, h14, h15, h16, h17, gW⟩
      · have hn5 : b5 = false := by revert hp; cases b5 <;> simp
        have e4 : b4 = true := by revert hp; cases b4 <;> simp
        clear hp
        obtain rfl := (HI.out.2.2.2.2.1) e4
        subst hn5
        refine inv_op (o := ⟨some 14, _, _, _, _, _⟩) rfl (fun K' hK' => ?_)
        go_simp
        obtain ⟨h0, h1, h2, h3, h4, h5, h6, h7, h8, h9, h10, h11, h12, h13, h14, h15, h16, h17, gW⟩ := HI.out
        exact hK'.out _ _ ⟨⟨b0, b1, b2, b3, b4, true, b6, b7, b8, b9, b10, b11, b12, b13, b14, b15, b16, b17, s9, s10, s11, s12, _, _, s15, s16, s17, s18, s19, s20, s21, s22, s23, s24, s25, s4⟩, rfl, rfl, h0, h1, h2, h3, h4, (fun _ => rfl), h6, h7, h8, h9, h10, h11, h12, h13, h14, h15, h16, h17, gW⟩
      · have hn6 : b6 = false := by revert hp; cases b6 <;> simp
        have e5 : b5 = true := by revert hp; cases b5 <;> simp
        clear hp
        obtain rfl := (HI.out.2.2.2.2.2.1) e5
        subst hn6
        refine inv_op (o := ⟨some 15, _, _, _, _, _⟩) rfl (fun K' hK' => ?_)
        have gW := HI.out.2.2.2.2.2.2.2.2.2.2.2.2.2.2.2.2.2.2
        rw [if_pos (by kernel_rfl)]
        refine wp_load_row 33 _ rfl g rfl 33 DV (0, 0) _ (HDG.out W gW) und32 rfl (info32.trans HSZ.out) ?_
        obtain ⟨h0, h1, h2, h3, h4, h5, h6, h7, h8, h9, h10, h11, h12, h13, h14, h15, h16, h17, gW⟩ := HI.out
        exact hK'.out _ _ ⟨⟨b0, b1, b2, b3, b4, b5, true, b7, b8, b9, b10, b11, b12, b13, b14, b15, b16, b17, s9, s10, s11, s12, s13, _, _, s16, s17, s18, s19, s20, s21, s22, s23, s24, s25, s4⟩, rfl, rfl, h0, h1, h2, h3, h4, h5, (fun _ => rfl), h7, h8, h9, h10, h11, h12, h13, h14, h15, h16, h17, gW⟩
      · have hn7 : b7 = false := by revert hp; cases b7 <;> simp
        have e5 : b5 = true := by revert hp; cases b5 <;> simp
        clear hp
        obtain rfl := (HI.out.2.2.2.2.2.1) e5
        subst hn7
        refine inv_op (o := ⟨some 16, _, _, _, _, _⟩) rfl (fun K' hK' => ?_)
        go_simp
        obtain ⟨h0, h1, h2, h3, h4, h5, h6, h7, h8, h9, h10, h11, h12, h13, h14, h15, h16, h17, gW⟩ := HI.out
        exact hK'.out _ _ ⟨⟨b0, b1, b2, b3, b4, b5, b6, true, b8, b9, b10, b11, b12, b13, b14, b15, b16, b17, s9, s10, s11, s12, s13, _, s15, _, s17, s18, s19, s20, s21, s22, s23, s24, s25, s4⟩, rfl, rfl, h0, h1, h2, h3, h4, h5, h6, (fun _ => rfl), h8, h9, h10, h11, h12, h13, h14, h15, h16, h17, gW⟩
      · have hn8 : b8 = false := by revert hp; cases b8 <;> simp
        have e5 : b5 = true := by revert hp; cases b5 <;> simp
        have e6 : b6 = true := by revert hp; cases b6 <;> simp
        have e7 : b7 = true := by revert hp; cases b7 <;> simp
        clear hp
        obtain rfl := (HI.out.2.2.2.2.2.1) e5
        obtain rfl := (HI.out.2.2.2.2.2.2.1) e6
        obtain rfl := (HI.out.2.2.2.2.2.2.2.1) e7
        subst hn8
        refine inv_op (o := ⟨some 17, _, _, _, _, _⟩) rfl (fun K' hK' => ?_)
        have gW := HI.out.2.2.2.2.2.2.2.2.2.2.2.2.2.2.2.2.2.2
        go_simp
        refine (HLK.out W gW).mono ?_
        rintro e w1 ⟨rfl, bn⟩
        obtain ⟨h0, h1, h2, h3, h4, h5, h6, h7, h8, h9, h10, h11, h12, h13, h14, h15, h16, h17, gW⟩ := HI.out
        exact hK'.out _ _ ⟨⟨b0, b1, b2, b3, b4, b5, b6, b7, true, b9, b10, b11, b12, b13, b14, b15, b16, b17, s9, s10, s11, s12, s13, _, _, _, _, s18, s19, s20, s21, s22, s23, s24, s25, s4⟩, rfl, rfl, h0, h1, h2, h3, h4, h5, h6, h7, (fun _ => rfl), h9, h10, h11, h12, h13, h14, h15, h16, h17, (gW.trans (bn.mono gW.size))⟩
      · have hn9 : b9 = false := by revert hp; cases b9 <;> simp
        have e5 : b5 = true := by revert hp; cases b5 <;> simp
        clear hp
        obtain rfl := (HI.out.2.2.2.2.2.1) e5
        subst hn9
        refine inv_op (o := ⟨some 18, _, _, _, _, _⟩) rfl (fun K' hK' => ?_)
        have gW := HI.out.2.2.2.2.2.2.2.2.2.2.2.2.2.2.2.2.2.2
        rw [if_pos (by kernel_rfl)]
        refine wp_load_row 33 _ rfl g rfl 33 DV (0, 0) _ (HDG.out W gW) und32 rfl (info32.trans HSZ.out) ?_
        obtain ⟨h0, h1, h2, h3, h4, h5, h6, h7, h8, h9, h10, h11, h12, h13, h14, h15, h16, h17, gW⟩ := HI.out
        exact hK'.out _ _ ⟨⟨b0, b1, b2, b3, b4, b5, b6, b7, b8, true, b10, b11, b12, b13, b14, b15, b16, b17, s9, s10, s11, s12, s13, _, s15, s16, s17, _, s19, s20, s21, s22, s23, s24, s25, s4⟩, rfl, rfl, h0, h1, h2, h3, h4, h5, h6, h7, h8, (fun _ => rfl), h10, h11, h12, h13, h14, h15, h16, h17, gW⟩
      · have hn10 : b10 = false := by revert hp; cases b10 <;> simp
        have e5 : b5 = true := by revert hp; cases b5 <;> simp
        clear hp
        obtain rfl := (HI.out.2.2.2.2.2.1) e5
        subst hn10
        refine inv_op (o := ⟨some 19, _, _, _, _, _⟩) rfl (fun K' hK' => ?_)
        go_simp
        obtain ⟨h0, h1, h2, h3, h4, h5, h6, h7, h8, h9, h10, h11, h12, h13, h14, h15, h16, h17, gW⟩ := HI.out
        exact hK'.out _ _ ⟨⟨b0, b1, b2, b3, b4, b5, b6, b7, b8, b9, true, b11, b12, b13, b14, b15, b16, b17, s9, s10, s11, s12, s13, _, s15, s16, s17, s18, _, s20, s21, s22, s23, s24, s25, s4⟩, rfl, rfl, h0, h1, h2, h3, h4, h5, h6, h7, h8, h9, (fun _ => rfl), h11, h12, h13, h14, h15, h16, h17, gW⟩
      · have hn11 : b11 = false := by revert hp; cases b11 <;> simp
        have e5 : b5 = true := by revert hp; cases b5 <;> simp
        have e9 : b9 = true := by revert hp; cases b9 <;> simp
        have e10 : b10 = true := by revert hp; cases b10 <;> simp
        clear hp
        obtain rfl := (HI.out.2.2.2.2.2.1) e5
        obtain rfl := (HI.out.2.2.2.2.2.2.2.2.2.1) e9
        obtain rfl := (HI.out.2.2.2.2.2.2.2.2.2.2.1) e10
        subst hn11
        refine inv_op (o := ⟨some 20, _, _, _, _, _⟩) rfl (fun K' hK' => ?_)
        have gW := HI.out.2.2.2.2.2.2.2.2.2.2.2.2.2.2.2.2.2.2
        go_simp
        refine (HRL.out W gW).mono ?_
        rintro e w1 ⟨rfl, bn⟩
        obtain ⟨h0, h1, h2, h3, h4, h5, h6, h7, h8, h9, h10, h11, h12, h13, h14, h15, h16, h17, gW⟩ := HI.out
        exact hK'.out _ _ ⟨⟨b0, b1, b2, b3, b4, b5, b6, b7, b8, b9, b10, true, b12, b13, b14, b15, b16, b17, s9, s10, s11, s12, s13, _, s15, s16, s17, _, _, _, s21, s22, s23, s24, s25, s4⟩, rfl, rfl, h0, h1, h2, h3, h4, h5, h6, h7, h8, h9, h10, (fun _ => rfl), h12, h13, h14, h15, h16, h17, (gW.trans (bn.mono gW.size))⟩
      · have hn12 : b12 = false := by revert hp; cases b12 <;> simp
        have e5 : b5 = true := by revert hp; cases b5 <;> simp
        have e8 : b8 = true := by revert hp; cases b8 <;> simp
        have e11 : b11 = true := by revert hp; cases b11 <;> simp
        clear hp
        obtain rfl := (HI.out.2.2.2.2.2.1) e5
        obtain rfl := (HI.out.2.2.2.2.2.2.2.2.1) e8
        obtain rfl := (HI.out.2.2.2.2.2.2.2.2.2.2.2.1) e11
        subst hn12
        refine inv_op (o := ⟨some 21, _, _, _, _, _⟩) rfl (fun K' hK' => ?_)
        have hq := HEL.out W
        go_simp
        obtain ⟨h0, h1, h2, h3, h4, h5, h6, h7, h8, h9, h10, h11, h12, h13, h14, h15, h16, h17, gW⟩ := HI.out
        exact hK'.out _ _ ⟨⟨b0, b1, b2, b3, b4, b5, b6, b7, b8, b9, b10, b11, true, b13, b14, b15, b16, b17, s9, s10, s11, s12, s13, _, s15, s16, _, s18, s19, _, _, s22, s23, s24, s25, s4⟩, rfl, rfl, h0, h1, h2, h3, h4, h5, h6, h7, h8, h9, h10, h11, (fun _ => rfl), h13, h14, h15, h16, h17, gW⟩
      · have hn13 : b13 = false := by revert hp; cases b13 <;> simp
        have e5 : b5 = true := by revert hp; cases b5 <;> simp
        have e12 : b12 = true := by revert hp; cases b12 <;> simp
        clear hp
        obtain rfl := (HI.out.2.2.2.2.2.1) e5
        obtain rfl := (HI.out.2.2.2.2.2.2.2.2.2.2.2.2.1) e12
        subst hn13
        refine inv_op (o := ⟨some 22, _, _, _, _, _⟩) rfl (fun K' hK' => ?_)
        go_simp
        obtain ⟨h0, h1, h2, h3, h4, h5, h6, h7, h8, h9, h10, h11, h12, h13, h14, h15, h16, h17, gW⟩ := HI.out
        exact hK'.out _ _ ⟨⟨b0, b1, b2, b3, b4, b5, b6, b7, b8, b9, b10, b11, b12, true, b14, b15, b16, b17, s9, s10, s11, s12, s13, _, s15, s16, s17, s18, s19, s20, _, _, s23, s24, s25, s4⟩, rfl, rfl, h0, h1, h2, h3, h4, h5, h6, h7, h8, h9, h10, h11, h12, (fun _ => rfl), h14, h15, h16, h17, gW⟩
      · have hn14 : b14 = false := by revert hp; cases b14 <;> simp
        have e13 : b13 = true := by revert hp; cases b13 <;> simp
        clear hp
        obtain rfl := (HI.out.2.2.2.2.2.2.2.2.2.2.2.2.2.1) e13
        subst hn14
        refine inv_op (o := ⟨some 23, _, _, _, _, _⟩) rfl (fun K' hK' => ?_)
        go_simp
        obtain ⟨h0, h1, h2, h3, h4, h5, h6, h7, h8, h9, h10, h11, h12, h13, h14, h15, h16, h17, gW⟩ := HI.out
        exact hK'.out _ _ ⟨⟨b0, b1, b2, b3, b4, b5, b6, b7, b8, b9, b10, b11, b12, b13, true, b15, b16, b17, s9, s10, s11, s12, s13, s14, s15, s16, s17, s18, s19, s20, s21, _, _, s24, s25, s4⟩, rfl, rfl, h0, h1, h2, h3, h4, h5, h6, h7, h8, h9, h10, h11, h12, h13, (fun _ => rfl), h15, h16, h17, gW⟩
      · have hn15 : b15 = false := by revert hp; cases b15 <;> simp
        have e14 : b14 = true := by revert hp; cases b14 <;> simp
        clear hp
        obtain rfl := (HI.out.2.2.2.2.2.2.2.2.2.2.2.2.2.2.1) e14
        subst hn15
        refine inv_op (o := ⟨some 24, _, _, _, _, _⟩) rfl (fun K' hK' => ?_)
        have gW := HI.out.2.2.2.2.2.2.2.2.2.2.2.2.2.2.2.2.2.2
        go_simp
        refine (HHD.out W gW).mono ?_
        rintro e w1 ⟨rfl, bn⟩
        obtain ⟨h0, h1, h2, h3, h4, h5, h6, h7, h8, h9, h10, h11, h12, h13, h14, h15, h16, h17, gW⟩ := HI.out
        exact hK'.out _ _ ⟨⟨b0, b1, b2, b3, b4, b5, b6, b7, b8, b9, b10, b11, b12, b13, b14, true, b16, b17, s9, s10, s11, s12, s13, s14, s15, s16, s17, s18, s19, s20, s21, s22, _, _, s25, s4⟩, rfl, rfl, h0, h1, h2, h3, h4, h5, h6, h7, h8, h9, h10, h11, h12, h13, h14, (fun _ => rfl), h16, h17, (gW.trans (bn.mono gW.size))⟩
      · have hn16 : b16 = false := by revert hp; cases b16 <;> simp
        have e14 : b14 = true := by revert hp; cases b14 <;> simp
        have e15 : b15 = true := by revert hp; cases b15 <;> simp
        clear hp
        obtain rfl := (HI.out.2.2.2.2.2.2.2.2.2.2.2.2.2.2.1) e14
        obtain rfl := (HI.out.2.2.2.2.2.2.2.2.2.2.2.2.2.2.2.1) e15
        subst hn16
        refine inv_op (o := ⟨some 25, _, _, _, _, _⟩) rfl (fun K' hK' => ?_)
        go_simp
        obtain ⟨h0, h1, h2, h3, h4, h5, h6, h7, h8, h9, h10, h11, h12, h13, h14, h15, h16, h17, gW⟩ := HI.out
        exact hK'.out _ _ ⟨⟨b0, b1, b2, b3, b4, b5, b6, b7, b8, b9, b10, b11, b12, b13, b14, b15, true, b17, s9, s10, s11, s12, s13, s14, s15, s16, s17, s18, s19, s20, s21, s22, _, _, _, s4⟩, rfl, rfl, h0, h1, h2, h3, h4, h5, h6, h7, h8, h9, h10, h11, h12, h13, h14, h15, (fun _ => rfl), h17, gW⟩
      · have hn17 : b17 = false := by revert hp; cases b17 <;> simp
        have e16 : b16 = true := by revert hp; cases b16 <;> simp
        clear hp
        obtain rfl := (HI.out.2.2.2.2.2.2.2.2.2.2.2.2.2.2.2.2.1) e16
        subst hn17
        refine inv_op (o := ⟨some 4, _, _, _, _, _⟩) rfl (fun K' hK' => ?_)
        go_simp
        obtain ⟨h0, h1, h2, h3, h4, h5, h6, h7, h8, h9, h10, h11, h12, h13, h14, h15, h16, h17, gW⟩ := HI.out
        exact hK'.out _ _ ⟨⟨b0, b1, b2, b3, b4, b5, b6, b7, b8, b9, b10, b11, b12, b13, b14, b15, b16, true, s9, s10, s11, s12, s13, s14, s15, s16, s17, s18, s19, s20, s21, s22, s23, s24, _, _⟩, rfl, rfl, h0, h1, h2, h3, h4, h5, h6, h7, h8, h9, h10, h11, h12, h13, h14, h15, h16, (fun _ => rfl), gW⟩
    case hdone =>
      rintro ⟨b0, b1, b2, b3, b4, b5, b6, b7, b8, b9, b10, b11, b12, b13, b14, b15, b16, b17, s9, s10, s11, s12, s13, s14, s15, s16, s17, s18, s19, s20, s21, s22, s23, s24, s25, s4⟩ W hI hall
      dsimp only at hI hall ⊢
      have HI := Lib.hid hI
      clear hI
      obtain rfl : b17 = true := hall 17 (by decide)
      obtain rfl := (HI.out.2.2.2.2.2.2.2.2.2.2.2.2.2.2.2.2.2.1) rfl
      have gW := HI.out.2.2.2.2.2.2.2.2.2.2.2.2.2.2.2.2.2.2
      clear HI hall
      have GW := Lib.hid gW
      clear gW
      go_wp2_with fail
      go_ret
      exact ⟨rfl, HBF.out.trans (GW.out.mono HBF.out.size)⟩
end Go.Proofs.YtfaiblngchdpmaaDoor
