/- What the examples of the law's package come to: true. -/
import Derived.Test.YtfaiblngchdpmaaDoorShaK
import Derived.Test.YtfaiblngchdpmaaDoorEq
import Derived.Lib.SlBytesConst
namespace Go.Proofs.YtfaiblngchdpmaaDoor
open Go.RowKit Go.Lib

theorem zeros_link : shaOf (List.replicate 32 0 ++ []) = shaOf (List.replicate 32 0) := by rw [List.append_nil]
theorem digest_4 (a : Addr) (Z : World) : (Instr.sliceAt 33 (.pointer (some a)) none (some (.int .i64 4)) none).run Tryd.prog Z = .ok (.slice (some a) 4 32) Z := by
  have h32 : Tryd.prog.arrayLen 33 = 32 := by kernel_rfl
  rw [run_sliceAt_array_h (P := Tryd.prog) Z 33 a (by kernel_rfl) .i64 4 (by decide) (by rw [h32]; decide)]
  have hs : (sizeOf (Tryd.prog.elem 33)).run Tryd.prog Z = .ok 1 Z := by kernel_rfl
  rw [hs]
  simp only [Result.andThen, slicedAt, h32]
  congr 2
theorem digest_bytes {w : World} {g : Nat} {l m : List UInt8} {t : TypeId} (h : w.heap[g]? = some (.cells (byteCells l).toArray t (0, 0))) (hl : l.length = 32) (hm : l.take 4 = m) : IsBytes w (.slice (some ⟨g, 0, none⟩) 4 32) m := by
  rw [← hm]
  exact isBytes_at h (by simp) (by omega) (by decide) (by decide)
theorem pad_len (n k : Nat) (hn : n ≤ 1000000) (hk : (padOf n).length = k) (w : World) : Calls Tryd.prog 13 #[.int .i64 n] w fun e w' => ∃ a c, e = .returned (.slice a k c) ∧ Below w.heap.size w w' :=
  (pad_any n hn w).mono fun e w' ⟨v, he, ho, hb⟩ => by
    obtain ⟨a, c, hs⟩ := (isArg_of_owns ho).1.shape
    rw [hk] at hs
    exact ⟨a, c, by rw [he, hs], hb⟩
structure HeadsX where
  b0 : Bool
  b1 : Bool
  b2 : Bool
  b3 : Bool
  b4 : Bool
  b5 : Bool
  b6 : Bool
  b7 : Bool
  b8 : Bool
  b9 : Bool
  b10 : Bool
  b11 : Bool
  b12 : Bool
  b13 : Bool
  b14 : Bool
  b15 : Bool
  b16 : Bool
  b17 : Bool
  b18 : Bool
  b19 : Bool
  b20 : Bool
  b21 : Bool
  b22 : Bool
  b23 : Bool
  b24 : Bool
  b25 : Bool
  s7 : Value
  s8 : Value
  s9 : Value
  s10 : Value
  s11 : Value
  s12 : Value
  s13 : Value
  s14 : Value
  s15 : Value
  s16 : Value
  s17 : Value
  s18 : Value
  s19 : Value
  s20 : Value
  s21 : Value
  s22 : Value
  s23 : Value
  s24 : Value
  s25 : Value
  s26 : Value
  s27 : Value
  s28 : Value
  s29 : Value
  s30 : Value
  s31 : Value
  s0 : Value
set_option maxHeartbeats 4000000 in
set_option maxRecDepth 100000 in
theorem heads_any (w : World) (hL : Laid w) : Calls Tryd.prog 7 #[] w fun e w' => e = .returned (.bool true) ∧ Below w.heap.size w w' := by
  have kc := fun (w : World) (C : Array Value) (n c : Nat) => Lib.run_convert_bytes_const (P := Tryd.prog) w 24 5 C n c Tryd.underlying24 Tryd.underlying5
  have HL := Lib.hid hL
  obtain ⟨DA, hDA⟩ : ∃ D, D = (byteCells (shaOf [97, 98, 99])).toArray := ⟨_, rfl⟩
  obtain ⟨DE, hDE⟩ : ∃ D, D = (byteCells (shaOf [])).toArray := ⟨_, rfl⟩
  have HDA := Lib.hid (show (some 32 : Option Nat) = some DA.size ∧ zero32.size = DA.size ∧ DA.all (·.oneCell') = true from ⟨by rw [hDA]; simp [byteCells, shaOf_length], by rw [hDA]; simp [byteCells, shaOf_length]; rfl, by rw [hDA]; exact all_oneCell_toArray (byteCells_one _)⟩)
  have HDE := Lib.hid (show (some 32 : Option Nat) = some DE.size ∧ zero32.size = DE.size ∧ DE.all (·.oneCell') = true from ⟨by rw [hDE]; simp [byteCells, shaOf_length], by rw [hDE]; simp [byteCells, shaOf_length]; rfl, by rw [hDE]; exact all_oneCell_toArray (byteCells_one _)⟩)
  obtain ⟨B0, hB0⟩ : ∃ B, B = w.heap.size := ⟨_, rfl⟩
  have ha0 := isArg_new w #[.int .u8 97, .int .u8 98, .int .u8 99] 5 (3, 4) [97, 98, 99] 3 rfl rfl (by decide)
  have hb0 : Below w.heap.size w (w.alloc (.cells #[.int .u8 97, .int .u8 98, .int .u8 99] 5 (3, 4))) := (Below.refl _ _).alloc (Nat.le_refl _) _
  have h1 := of_any _ _ (by decide) _ ha0 (hL.below hb0)
  rw [← hDA] at h1
  have H1 := Lib.hid h1
  have HB0 := Lib.hid hb0
  have HDA2 := Lib.hid hDA
  have HDE2 := Lib.hid hDE
  clear hL hDA hDE ha0 hb0 h1
  go_enter Tryd.func7, Tryd.ntmps7
  go_wp2_with fail
  refine H1.out.mono ?_
  rintro e w1 ⟨rfl, hb1⟩
  have hw1 := HB0.out.trans (hb1.mono HB0.out.size)
  have h2 := of_any (.slice none 0 0) [] (by decide) w1 (isArg_nil w1) (HL.out.below hw1)
  rw [← HDE2.out] at h2
  have H2 := Lib.hid h2
  have HW1 := Lib.hid hw1
  have HBB := Lib.hid hB0
  clear h2 hw1 hb1 hB0 HB0 H1
  go_wp2_with fail
  refine H2.out.mono ?_
  rintro e w2 ⟨rfl, hb2⟩
  have HW2 := Lib.hid (HW1.out.trans (hb2.mono HW1.out.size))
  clear hb2 HW1 H2
  obtain ⟨g1, hg1⟩ : ∃ g, g = w2.heap.size := ⟨_, rfl⟩
  go_upto_region 2 with (first | (refine wpList_store_row rfl 33 _ _ rfl w2.heap.size DA rfl rfl 33 zero32 ?st1 (info32.trans HDA.out.1) HDA.out.2.1 HDA.out.2.2 ?_) | (refine wpList_store_row rfl 33 _ _ rfl (w2.heap.size + 1) DE rfl rfl 33 zero32 ?st2 (info32.trans HDE.out.1) HDE.out.2.1 HDE.out.2.2 ?_))
  case st1 => rw [← zero32_lit]; exact heap_alloc2_old w2 _ _
  case st2 => rw [← zero32_lit, setRow_other _ _ _ _ (by omega)]; exact heap_alloc2_new w2 _ _
  rw [← zero32_lit, ← hg1, ← HBB.out]
  generalize hW0 : World.setRow (World.setRow _ _ _) _ _ = W0
  have hA0 : W0.heap[g1]? = some (.cells DA 33 (0, 0)) := by rw [← hW0, setRow_other _ _ _ _ (by omega), hg1]; exact setRow_heap _ _ _ _ _ _ (heap_alloc2_old w2 _ _)
  have hE0 : W0.heap[g1 + 1]? = some (.cells DE 33 (0, 0)) := by rw [← hW0, hg1]; exact setRow_heap _ _ _ _ _ _ ((setRow_other _ _ _ _ (by omega)).trans (heap_alloc2_new w2 _ _))
  have hb0 : Below w.heap.size w W0 := by
    rw [← hW0, hg1]
    have h1 := HW2.out.size
    exact below_setRow (below_setRow ((HW2.out.alloc h1 _).alloc (by simp; omega) _) (by omega) _) (by omega) _
  obtain ⟨DZ, hDZ⟩ : ∃ D, D = (byteCells (List.replicate 32 0)).toArray := ⟨_, rfl⟩
  obtain ⟨DL, hDL⟩ : ∃ D, D = (byteCells (shaOf (List.replicate 32 0))).toArray := ⟨_, rfl⟩
  obtain ⟨g2, hg2⟩ : ∃ g, g = g1 + 1 := ⟨_, rfl⟩
  rw [← hg2]
  rw [← hg2] at hE0
  have HA1 := Lib.hid (show ∀ W, Below W0.heap.size W0 W → IsBytes W (.slice (some ⟨g1, 0, none⟩) 4 32) [186, 120, 22, 191] from fun W hb => by
    have h := (hb.block _ (Array.getElem?_eq_some_iff.1 hA0).1).trans hA0
    rw [HDA2.out] at h
    exact digest_bytes h (shaOf_length _) sha_abc)
  have HA2 := Lib.hid (show ∀ W, Below W0.heap.size W0 W → IsBytes W (.slice (some ⟨g2, 0, none⟩) 4 32) [227, 176, 196, 66] from fun W hb => by
    have h := (hb.block _ (Array.getElem?_eq_some_iff.1 hE0).1).trans hE0
    rw [HDE2.out] at h
    exact digest_bytes h (shaOf_length _) sha_none)
  have hLW : ∀ W, Below W0.heap.size W0 W → Laid W := fun W hb => HL.out.below (hb0.trans (hb.mono hb0.size))
  have HLK := Lib.hid (show ∀ W, Below W0.heap.size W0 W → Calls Tryd.prog 17 #[.agg DZ, .slice none 0 0] W fun e w' => e = .returned (.agg DL) ∧ Below W.heap.size W w' from fun W hb => by
    have h := link_any (List.replicate 32 0) (by simp) (.slice none 0 0) [] (by decide) W (isArg_nil W) (hLW W hb)
    rw [zeros_link, ← hDZ, ← hDL] at h
    exact h)
  have HOF := Lib.hid (show ∀ W, Below W0.heap.size W0 W → ∀ v, IsArg W v (List.replicate 32 0) → Calls Tryd.prog 15 #[v] W fun e w' => e = .returned (.agg DL) ∧ Below W.heap.size W w' from fun W hb v hv => by
    have h := of_any v _ (by simp) W hv (hLW W hb)
    rw [← hDL] at h
    exact h)
  have HEQ := Lib.hid (show ∀ W : World, (Op.equalIn 10000 33 (.agg DL) (.agg DL)).run Tryd.prog W = .ok true W from fun W => by
    rw [hDL, equalIn_bytes W 33 5 32 _ _ (shaOf_length _) (shaOf_length _) und32 Tryd.underlying5 size8, decide_eq_true rfl])
  have HDZ := Lib.hid (show DZ = zero32 by rw [hDZ]; rfl)
  have HMK := Lib.hid (show ∀ W : World, (Instr.makeSlice 24 (.int .i64 32) (.int .i64 32)).run Tryd.prog W = .ok (.slice (some ⟨W.heap.size, 0, none⟩) 32 32) (W.alloc (.cells zero32 5)) from fun W => by kernel_rfl)
  have HBF := Lib.hid hb0
  clear kc hA0 hE0 hb0 hDZ hDL hLW hW0 hg1 hg2
  refine wp_region_rec (X := HeadsX) (by kernel_rfl) (by kernel_rfl) (fun x => #[x.b0, x.b1, x.b2, x.b3, x.b4, x.b5, x.b6, x.b7, x.b8, x.b9, x.b10, x.b11, x.b12, x.b13, x.b14, x.b15, x.b16, x.b17, x.b18, x.b19, x.b20, x.b21, x.b22, x.b23, x.b24, x.b25]) (fun x => { tmps := #[x.s0, .pointer (some ⟨g1, 0, none⟩), .pointer (some ⟨g2, 0, none⟩), .slice (some ⟨B0, 0, none⟩) 3 3, .slice (some ⟨B0, 0, none⟩) 3 3, .agg DA, .agg DE, x.s7, x.s8, x.s9, x.s10, x.s11, x.s12, x.s13, x.s14, x.s15, x.s16, x.s17, x.s18, x.s19, x.s20, x.s21, x.s22, x.s23, x.s24, x.s25, x.s26, x.s27, x.s28, x.s29, x.s30, x.s31], defers := [] }) (fun x W => (x.b0 = true → x.s7 = .slice (some ⟨g1, 0, none⟩) 4 32) ∧ (x.b2 = true → x.s9 = .bool true) ∧ (x.b3 = true → x.s10 = .bool true) ∧ (x.b4 = true → x.s11 = .slice (some ⟨g2, 0, none⟩) 4 32) ∧ (x.b6 = true → x.s13 = .bool true) ∧ (x.b7 = true → x.s14 = .bool true) ∧ (x.b8 = true → x.s15 = .bool true) ∧ (x.b10 = true → x.s17 = .int .i64 61) ∧ (x.b11 = true → x.s18 = .bool true) ∧ (x.b12 = true → x.s19 = .bool true) ∧ (x.b13 = true → x.s20 = .bool true) ∧ (x.b15 = true → x.s22 = .int .i64 72) ∧ (x.b16 = true → x.s23 = .bool true) ∧ (x.b17 = true → x.s24 = .bool true) ∧ (x.b18 = true → x.s25 = .bool true) ∧ (x.b19 = true → x.s26 = .agg DZ) ∧ (x.b20 = true → x.s27 = .agg DL) ∧ (x.b22 = true → x.s29 = .agg DL) ∧ (x.b23 = true → x.s30 = .bool true) ∧ (x.b24 = true → x.s31 = .bool true) ∧ (x.b25 = true → x.s0 = .bool true) ∧ (x.b1 = true → IsBytes W x.s8 [186, 120, 22, 191]) ∧ (x.b5 = true → IsBytes W x.s12 [227, 176, 196, 66]) ∧ (x.b9 = true → ∃ a c, x.s16 = .slice a 61 c) ∧ (x.b14 = true → ∃ a c, x.s21 = .slice a 72 c) ∧ (x.b21 = true → IsArg W x.s28 (List.replicate 32 0)) ∧ (Below W0.heap.size W0 W)) ⟨false, false, false, false, false, false, false, false, false, false, false, false, false, false, false, false, false, false, false, false, false, false, false, false, false, false, undef, undef, undef, undef, undef, undef, undef, undef, undef, undef, undef, undef, undef, undef, undef, undef, undef, undef, undef, undef, undef, undef, undef, undef, undef, .bool false⟩ rfl rfl ⟨(fun h => by cases h), (fun h => by cases h), (fun h => by cases h), (fun h => by cases h), (fun h => by cases h), (fun h => by cases h), (fun h => by cases h), (fun h => by cases h), (fun h => by cases h), (fun h => by cases h), (fun h => by cases h), (fun h => by cases h), (fun h => by cases h), (fun h => by cases h), (fun h => by cases h), (fun h => by cases h), (fun h => by cases h), (fun h => by cases h), (fun h => by cases h), (fun h => by cases h), (fun h => by cases h), (fun h => by cases h), (fun h => by cases h), (fun h => by cases h), (fun h => by cases h), (fun h => by cases h), (Below.refl _ _).drew⟩ (fun _ => rfl) ?hstep ?hdone
  case hstep =>
    rintro ⟨b0, b1, b2, b3, b4, b5, b6, b7, b8, b9, b10, b11, b12, b13, b14, b15, b16, b17, b18, b19, b20, b21, b22, b23, b24, b25, s7, s8, s9, s10, s11, s12, s13, s14, s15, s16, s17, s18, s19, s20, s21, s22, s23, s24, s25, s26, s27, s28, s29, s30, s31, s0⟩ W hI i hi
    dsimp only at hI hi ⊢
    have HI := Lib.hid hI
    clear hI
    rw [Region.ready, List.mem_filter, List.mem_range] at hi
    obtain ⟨hlt, hp⟩ := hi
    have hi7 : i = 0 ∨ i = 1 ∨ i = 2 ∨ i = 3 ∨ i = 4 ∨ i = 5 ∨ i = 6 ∨ i = 7 ∨ i = 8 ∨ i = 9 ∨ i = 10 ∨ i = 11 ∨ i = 12 ∨ i = 13 ∨ i = 14 ∨ i = 15 ∨ i = 16 ∨ i = 17 ∨ i = 18 ∨ i = 19 ∨ i = 20 ∨ i = 21 ∨ i = 22 ∨ i = 23 ∨ i = 24 ∨ i = 25 := by simp at hlt; omega
    clear hlt
    rcases hi7 with rfl | rfl | rfl | rfl | rfl | rfl | rfl | rfl | rfl | rfl | rfl | rfl | rfl | rfl | rfl | rfl | rfl | rfl | rfl | rfl | rfl | rfl | rfl | rfl | rfl | rfl
    all_goals simp [Region.binds] at hp
    · have hn0 : b0 = false := by revert hp; cases b0 <;> simp
      clear hp
      subst hn0
      refine inv_op (o := ⟨some 7, _, _, _, _, _⟩) rfl (fun K' hK' => ?_)
      have hd4 := digest_4 ⟨g1, 0, none⟩ W
      go_simp
      obtain ⟨h0, h2, h3, h4, h6, h7, h8, h10, h11, h12, h13, h15, h16, h17, h18, h19, h20, h22, h23, h24, h25, g1b, g5b, g9, g14, g21, gW⟩ := HI.out
      exact hK'.out _ _ ⟨⟨true, b1, b2, b3, b4, b5, b6, b7, b8, b9, b10, b11, b12, b13, b14, b15, b16, b17, b18, b19, b20, b21, b22, b23, b24, b25, _, s8, s9, s10, s11, s12, s13, s14, s15, s16, s17, s18, s19, s20, s21, s22, s23, s24, s25, s26, s27, s28, s29, s30, s31, s0⟩, rfl, rfl, (fun _ => rfl), h2, h3, h4, h6, h7, h8, h10, h11, h12, h13, h15, h16, h17, h18, h19, h20, h22, h23, h24, h25, g1b, g5b, g9, g14, g21, gW⟩
    · have hn1 : b1 = false := by revert hp; cases b1 <;> simp
      clear hp
      subst hn1
      refine inv_op (o := ⟨some 8, _, _, _, _, _⟩) rfl (fun K' hK' => ?_)
      go_simp
      have bn : Below W.heap.size W (W.alloc (.cells #[.int .u8 186, .int .u8 120, .int .u8 22, .int .u8 191] 5)) := (Below.refl _ _).alloc (Nat.le_refl _) _
      obtain ⟨h0, h2, h3, h4, h6, h7, h8, h10, h11, h12, h13, h15, h16, h17, h18, h19, h20, h22, h23, h24, h25, g1b, g5b, g9, g14, g21, gW⟩ := HI.out
      exact hK'.out _ _ ⟨⟨b0, true, b2, b3, b4, b5, b6, b7, b8, b9, b10, b11, b12, b13, b14, b15, b16, b17, b18, b19, b20, b21, b22, b23, b24, b25, s7, _, s9, s10, s11, s12, s13, s14, s15, s16, s17, s18, s19, s20, s21, s22, s23, s24, s25, s26, s27, s28, s29, s30, s31, s0⟩, rfl, rfl, h0, h2, h3, h4, h6, h7, h8, h10, h11, h12, h13, h15, h16, h17, h18, h19, h20, h22, h23, h24, h25, (fun _ => isBytes_new W _ _ _ [186, 120, 22, 191] 4 rfl rfl (by decide)), (fun h => (g5b h).below bn), g9, g14, (fun h => (g21 h).below bn), (gW.trans (bn.mono gW.size))⟩
    · have hn2 : b2 = false := by revert hp; cases b2 <;> simp
      have e0 : b0 = true := by revert hp; cases b0 <;> simp
      have e1 : b1 = true := by revert hp; cases b1 <;> simp
      clear hp
      obtain rfl := (HI.out.1) e0
      subst hn2
      refine inv_op (o := ⟨some 9, _, _, _, _, _⟩) rfl (fun K' hK' => ?_)
      have g1b := HI.out.2.2.2.2.2.2.2.2.2.2.2.2.2.2.2.2.2.2.2.2.2.1
      have gW := HI.out.2.2.2.2.2.2.2.2.2.2.2.2.2.2.2.2.2.2.2.2.2.2.2.2.2.2
      have hk1 := HA1.out W gW
      have hk2 := g1b e1
      obtain ⟨a8, c8, hs8⟩ := hk2.shape
      have hs8 : s8 = .slice a8 4 c8 := hs8
      subst hs8
      go_simp
      refine (bytes_same _ _ [186, 120, 22, 191] _ hk1 hk2).mono ?_
      rintro e w1 ⟨rfl, rfl⟩
      obtain ⟨h0, h2, h3, h4, h6, h7, h8, h10, h11, h12, h13, h15, h16, h17, h18, h19, h20, h22, h23, h24, h25, g1b, g5b, g9, g14, g21, gW⟩ := HI.out
      exact hK'.out _ _ ⟨⟨b0, b1, true, b3, b4, b5, b6, b7, b8, b9, b10, b11, b12, b13, b14, b15, b16, b17, b18, b19, b20, b21, b22, b23, b24, b25, _, _, _, s10, s11, s12, s13, s14, s15, s16, s17, s18, s19, s20, s21, s22, s23, s24, s25, s26, s27, s28, s29, s30, s31, s0⟩, rfl, rfl, h0, (fun _ => rfl), h3, h4, h6, h7, h8, h10, h11, h12, h13, h15, h16, h17, h18, h19, h20, h22, h23, h24, h25, g1b, g5b, g9, g14, g21, gW⟩
    · have hn3 : b3 = false := by revert hp; cases b3 <;> simp
      have e2 : b2 = true := by revert hp; cases b2 <;> simp
      clear hp
      obtain rfl := (HI.out.2.1) e2
      subst hn3
      refine inv_op (o := ⟨some 10, _, _, _, _, _⟩) rfl (fun K' hK' => ?_)
      go_simp
      obtain ⟨h0, h2, h3, h4, h6, h7, h8, h10, h11, h12, h13, h15, h16, h17, h18, h19, h20, h22, h23, h24, h25, g1b, g5b, g9, g14, g21, gW⟩ := HI.out
      exact hK'.out _ _ ⟨⟨b0, b1, b2, true, b4, b5, b6, b7, b8, b9, b10, b11, b12, b13, b14, b15, b16, b17, b18, b19, b20, b21, b22, b23, b24, b25, s7, s8, _, _, s11, s12, s13, s14, s15, s16, s17, s18, s19, s20, s21, s22, s23, s24, s25, s26, s27, s28, s29, s30, s31, s0⟩, rfl, rfl, h0, h2, (fun _ => rfl), h4, h6, h7, h8, h10, h11, h12, h13, h15, h16, h17, h18, h19, h20, h22, h23, h24, h25, g1b, g5b, g9, g14, g21, gW⟩
    · have hn4 : b4 = false := by revert hp; cases b4 <;> simp
      have e3 : b3 = true := by revert hp; cases b3 <;> simp
      clear hp
      obtain rfl := (HI.out.2.2.1) e3
      subst hn4
      refine inv_op (o := ⟨some 11, _, _, _, _, _⟩) rfl (fun K' hK' => ?_)
      have hd4 := digest_4 ⟨g2, 0, none⟩ W
      go_simp
      obtain ⟨h0, h2, h3, h4, h6, h7, h8, h10, h11, h12, h13, h15, h16, h17, h18, h19, h20, h22, h23, h24, h25, g1b, g5b, g9, g14, g21, gW⟩ := HI.out
      exact hK'.out _ _ ⟨⟨b0, b1, b2, b3, true, b5, b6, b7, b8, b9, b10, b11, b12, b13, b14, b15, b16, b17, b18, b19, b20, b21, b22, b23, b24, b25, s7, s8, s9, _, _, s12, s13, s14, s15, s16, s17, s18, s19, s20, s21, s22, s23, s24, s25, s26, s27, s28, s29, s30, s31, s0⟩, rfl, rfl, h0, h2, h3, (fun _ => rfl), h6, h7, h8, h10, h11, h12, h13, h15, h16, h17, h18, h19, h20, h22, h23, h24, h25, g1b, g5b, g9, g14, g21, gW⟩
    · have hn5 : b5 = false := by revert hp; cases b5 <;> simp
      have e3 : b3 = true := by revert hp; cases b3 <;> simp
      clear hp
      obtain rfl := (HI.out.2.2.1) e3
      subst hn5
      refine inv_op (o := ⟨some 12, _, _, _, _, _⟩) rfl (fun K' hK' => ?_)
      go_simp
      have bn : Below W.heap.size W (W.alloc (.cells #[.int .u8 227, .int .u8 176, .int .u8 196, .int .u8 66] 5)) := (Below.refl _ _).alloc (Nat.le_refl _) _
      obtain ⟨h0, h2, h3, h4, h6, h7, h8, h10, h11, h12, h13, h15, h16, h17, h18, h19, h20, h22, h23, h24, h25, g1b, g5b, g9, g14, g21, gW⟩ := HI.out
      exact hK'.out _ _ ⟨⟨b0, b1, b2, b3, b4, true, b6, b7, b8, b9, b10, b11, b12, b13, b14, b15, b16, b17, b18, b19, b20, b21, b22, b23, b24, b25, s7, s8, s9, _, s11, _, s13, s14, s15, s16, s17, s18, s19, s20, s21, s22, s23, s24, s25, s26, s27, s28, s29, s30, s31, s0⟩, rfl, rfl, h0, h2, h3, h4, h6, h7, h8, h10, h11, h12, h13, h15, h16, h17, h18, h19, h20, h22, h23, h24, h25, (fun h => (g1b h).below bn), (fun _ => isBytes_new W _ _ _ [227, 176, 196, 66] 4 rfl rfl (by decide)), g9, g14, (fun h => (g21 h).below bn), (gW.trans (bn.mono gW.size))⟩
    · have hn6 : b6 = false := by revert hp; cases b6 <;> simp
      have e3 : b3 = true := by revert hp; cases b3 <;> simp
      have e4 : b4 = true := by revert hp; cases b4 <;> simp
      have e5 : b5 = true := by revert hp; cases b5 <;> simp
      clear hp
      obtain rfl := (HI.out.2.2.1) e3
      obtain rfl := (HI.out.2.2.2.1) e4
      subst hn6
      refine inv_op (o := ⟨some 13, _, _, _, _, _⟩) rfl (fun K' hK' => ?_)
      have g5b := HI.out.2.2.2.2.2.2.2.2.2.2.2.2.2.2.2.2.2.2.2.2.2.2.1
      have gW := HI.out.2.2.2.2.2.2.2.2.2.2.2.2.2.2.2.2.2.2.2.2.2.2.2.2.2.2
      have hk1 := HA2.out W gW
      have hk2 := g5b e5
      obtain ⟨a8, c8, hs8⟩ := hk2.shape
      have hs8 : s12 = .slice a8 4 c8 := hs8
      subst hs8
      go_simp
      refine (bytes_same _ _ [227, 176, 196, 66] _ hk1 hk2).mono ?_
      rintro e w1 ⟨rfl, rfl⟩
      obtain ⟨h0, h2, h3, h4, h6, h7, h8, h10, h11, h12, h13, h15, h16, h17, h18, h19, h20, h22, h23, h24, h25, g1b, g5b, g9, g14, g21, gW⟩ := HI.out
      exact hK'.out _ _ ⟨⟨b0, b1, b2, b3, b4, b5, true, b7, b8, b9, b10, b11, b12, b13, b14, b15, b16, b17, b18, b19, b20, b21, b22, b23, b24, b25, s7, s8, s9, _, _, _, _, s14, s15, s16, s17, s18, s19, s20, s21, s22, s23, s24, s25, s26, s27, s28, s29, s30, s31, s0⟩, rfl, rfl, h0, h2, h3, h4, (fun _ => rfl), h7, h8, h10, h11, h12, h13, h15, h16, h17, h18, h19, h20, h22, h23, h24, h25, g1b, g5b, g9, g14, g21, gW⟩
    · have hn7 : b7 = false := by revert hp; cases b7 <;> simp
      have e3 : b3 = true := by revert hp; cases b3 <;> simp
      have e6 : b6 = true := by revert hp; cases b6 <;> simp
      clear hp
      obtain rfl := (HI.out.2.2.1) e3
      obtain rfl := (HI.out.2.2.2.2.1) e6
      subst hn7
      refine inv_op (o := ⟨some 14, _, _, _, _, _⟩) rfl (fun K' hK' => ?_)
      go_simp
      obtain ⟨h0, h2, h3, h4, h6, h7, h8, h10, h11, h12, h13, h15, h16, h17, h18, h19, h20, h22, h23, h24, h25, g1b, g5b, g9, g14, g21, gW⟩ := HI.out
      exact hK'.out _ _ ⟨⟨b0, b1, b2, b3, b4, b5, b6, true, b8, b9, b10, b11, b12, b13, b14, b15, b16, b17, b18, b19, b20, b21, b22, b23, b24, b25, s7, s8, s9, _, s11, s12, _, _, s15, s16, s17, s18, s19, s20, s21, s22, s23, s24, s25, s26, s27, s28, s29, s30, s31, s0⟩, rfl, rfl, h0, h2, h3, h4, h6, (fun _ => rfl), h8, h10, h11, h12, h13, h15, h16, h17, h18, h19, h20, h22, h23, h24, h25, g1b, g5b, g9, g14, g21, gW⟩
    · have hn8 : b8 = false := by revert hp; cases b8 <;> simp
      have e7 : b7 = true := by revert hp; cases b7 <;> simp
      clear hp
      obtain rfl := (HI.out.2.2.2.2.2.1) e7
      subst hn8
      refine inv_op (o := ⟨some 15, _, _, _, _, _⟩) rfl (fun K' hK' => ?_)
      go_simp
      obtain ⟨h0, h2, h3, h4, h6, h7, h8, h10, h11, h12, h13, h15, h16, h17, h18, h19, h20, h22, h23, h24, h25, g1b, g5b, g9, g14, g21, gW⟩ := HI.out
      exact hK'.out _ _ ⟨⟨b0, b1, b2, b3, b4, b5, b6, b7, true, b9, b10, b11, b12, b13, b14, b15, b16, b17, b18, b19, b20, b21, b22, b23, b24, b25, s7, s8, s9, s10, s11, s12, s13, _, _, s16, s17, s18, s19, s20, s21, s22, s23, s24, s25, s26, s27, s28, s29, s30, s31, s0⟩, rfl, rfl, h0, h2, h3, h4, h6, h7, (fun _ => rfl), h10, h11, h12, h13, h15, h16, h17, h18, h19, h20, h22, h23, h24, h25, g1b, g5b, g9, g14, g21, gW⟩
    · have hn9 : b9 = false := by revert hp; cases b9 <;> simp
      have e8 : b8 = true := by revert hp; cases b8 <;> simp
      clear hp
      obtain rfl := (HI.out.2.2.2.2.2.2.1) e8
      subst hn9
      refine inv_op (o := ⟨some 16, _, _, _, _, _⟩) rfl (fun K' hK' => ?_)
      go_simp
      refine (pad_len 3 61 (by decide) rfl W).mono ?_
      rintro e w1 ⟨a9, c9, rfl, bn⟩
      obtain ⟨h0, h2, h3, h4, h6, h7, h8, h10, h11, h12, h13, h15, h16, h17, h18, h19, h20, h22, h23, h24, h25, g1b, g5b, g9, g14, g21, gW⟩ := HI.out
      exact hK'.out _ _ ⟨⟨b0, b1, b2, b3, b4, b5, b6, b7, b8, true, b10, b11, b12, b13, b14, b15, b16, b17, b18, b19, b20, b21, b22, b23, b24, b25, s7, s8, s9, s10, s11, s12, s13, s14, _, _, s17, s18, s19, s20, s21, s22, s23, s24, s25, s26, s27, s28, s29, s30, s31, s0⟩, rfl, rfl, h0, h2, h3, h4, h6, h7, h8, h10, h11, h12, h13, h15, h16, h17, h18, h19, h20, h22, h23, h24, h25, (fun h => (g1b h).below bn), (fun h => (g5b h).below bn), (fun _ => ⟨a9, c9, rfl⟩), g14, (fun h => (g21 h).below bn), (gW.trans (bn.mono gW.size))⟩
    · have hn10 : b10 = false := by revert hp; cases b10 <;> simp
      have e8 : b8 = true := by revert hp; cases b8 <;> simp
      have e9 : b9 = true := by revert hp; cases b9 <;> simp
      clear hp
      obtain rfl := (HI.out.2.2.2.2.2.2.1) e8
      subst hn10
      refine inv_op (o := ⟨some 17, _, _, _, _, _⟩) rfl (fun K' hK' => ?_)
      have g9 := HI.out.2.2.2.2.2.2.2.2.2.2.2.2.2.2.2.2.2.2.2.2.2.2.2.1
      obtain ⟨a9, c9, rfl⟩ := g9 e9
      go_simp
      obtain ⟨h0, h2, h3, h4, h6, h7, h8, h10, h11, h12, h13, h15, h16, h17, h18, h19, h20, h22, h23, h24, h25, g1b, g5b, g9, g14, g21, gW⟩ := HI.out
      exact hK'.out _ _ ⟨⟨b0, b1, b2, b3, b4, b5, b6, b7, b8, b9, true, b11, b12, b13, b14, b15, b16, b17, b18, b19, b20, b21, b22, b23, b24, b25, s7, s8, s9, s10, s11, s12, s13, s14, _, _, _, s18, s19, s20, s21, s22, s23, s24, s25, s26, s27, s28, s29, s30, s31, s0⟩, rfl, rfl, h0, h2, h3, h4, h6, h7, h8, (fun _ => rfl), h11, h12, h13, h15, h16, h17, h18, h19, h20, h22, h23, h24, h25, g1b, g5b, g9, g14, g21, gW⟩
    · have hn11 : b11 = false := by revert hp; cases b11 <;> simp
      have e8 : b8 = true := by revert hp; cases b8 <;> simp
      have e10 : b10 = true := by revert hp; cases b10 <;> simp
      clear hp
      obtain rfl := (HI.out.2.2.2.2.2.2.1) e8
      obtain rfl := (HI.out.2.2.2.2.2.2.2.1) e10
      subst hn11
      refine inv_op (o := ⟨some 18, _, _, _, _, _⟩) rfl (fun K' hK' => ?_)
      go_simp
      obtain ⟨h0, h2, h3, h4, h6, h7, h8, h10, h11, h12, h13, h15, h16, h17, h18, h19, h20, h22, h23, h24, h25, g1b, g5b, g9, g14, g21, gW⟩ := HI.out
      exact hK'.out _ _ ⟨⟨b0, b1, b2, b3, b4, b5, b6, b7, b8, b9, b10, true, b12, b13, b14, b15, b16, b17, b18, b19, b20, b21, b22, b23, b24, b25, s7, s8, s9, s10, s11, s12, s13, s14, _, s16, _, _, s19, s20, s21, s22, s23, s24, s25, s26, s27, s28, s29, s30, s31, s0⟩, rfl, rfl, h0, h2, h3, h4, h6, h7, h8, h10, (fun _ => rfl), h12, h13, h15, h16, h17, h18, h19, h20, h22, h23, h24, h25, g1b, g5b, g9, g14, g21, gW⟩
    · have hn12 : b12 = false := by revert hp; cases b12 <;> simp
      have e8 : b8 = true := by revert hp; cases b8 <;> simp
      have e11 : b11 = true := by revert hp; cases b11 <;> simp
      clear hp
      obtain rfl := (HI.out.2.2.2.2.2.2.1) e8
      obtain rfl := (HI.out.2.2.2.2.2.2.2.2.1) e11
      subst hn12
      refine inv_op (o := ⟨some 19, _, _, _, _, _⟩) rfl (fun K' hK' => ?_)
      go_simp
      obtain ⟨h0, h2, h3, h4, h6, h7, h8, h10, h11, h12, h13, h15, h16, h17, h18, h19, h20, h22, h23, h24, h25, g1b, g5b, g9, g14, g21, gW⟩ := HI.out
      exact hK'.out _ _ ⟨⟨b0, b1, b2, b3, b4, b5, b6, b7, b8, b9, b10, b11, true, b13, b14, b15, b16, b17, b18, b19, b20, b21, b22, b23, b24, b25, s7, s8, s9, s10, s11, s12, s13, s14, _, s16, s17, _, _, s20, s21, s22, s23, s24, s25, s26, s27, s28, s29, s30, s31, s0⟩, rfl, rfl, h0, h2, h3, h4, h6, h7, h8, h10, h11, (fun _ => rfl), h13, h15, h16, h17, h18, h19, h20, h22, h23, h24, h25, g1b, g5b, g9, g14, g21, gW⟩
    · have hn13 : b13 = false := by revert hp; cases b13 <;> simp
      have e12 : b12 = true := by revert hp; cases b12 <;> simp
      clear hp
      obtain rfl := (HI.out.2.2.2.2.2.2.2.2.2.1) e12
      subst hn13
      refine inv_op (o := ⟨some 20, _, _, _, _, _⟩) rfl (fun K' hK' => ?_)
      go_simp
      obtain ⟨h0, h2, h3, h4, h6, h7, h8, h10, h11, h12, h13, h15, h16, h17, h18, h19, h20, h22, h23, h24, h25, g1b, g5b, g9, g14, g21, gW⟩ := HI.out
      exact hK'.out _ _ ⟨⟨b0, b1, b2, b3, b4, b5, b6, b7, b8, b9, b10, b11, b12, true, b14, b15, b16, b17, b18, b19, b20, b21, b22, b23, b24, b25, s7, s8, s9, s10, s11, s12, s13, s14, s15, s16, s17, s18, _, _, s21, s22, s23, s24, s25, s26, s27, s28, s29, s30, s31, s0⟩, rfl, rfl, h0, h2, h3, h4, h6, h7, h8, h10, h11, h12, (fun _ => rfl), h15, h16, h17, h18, h19, h20, h22, h23, h24, h25, g1b, g5b, g9, g14, g21, gW⟩
    · have hn14 : b14 = false := by revert hp; cases b14 <;> simp
      have e13 : b13 = true := by revert hp; cases b13 <;> simp
      clear hp
      obtain rfl := (HI.out.2.2.2.2.2.2.2.2.2.2.1) e13
      subst hn14
      refine inv_op (o := ⟨some 21, _, _, _, _, _⟩) rfl (fun K' hK' => ?_)
      go_simp
      refine (pad_len 56 72 (by decide) rfl W).mono ?_
      rintro e w1 ⟨a9, c9, rfl, bn⟩
      obtain ⟨h0, h2, h3, h4, h6, h7, h8, h10, h11, h12, h13, h15, h16, h17, h18, h19, h20, h22, h23, h24, h25, g1b, g5b, g9, g14, g21, gW⟩ := HI.out
      exact hK'.out _ _ ⟨⟨b0, b1, b2, b3, b4, b5, b6, b7, b8, b9, b10, b11, b12, b13, true, b15, b16, b17, b18, b19, b20, b21, b22, b23, b24, b25, s7, s8, s9, s10, s11, s12, s13, s14, s15, s16, s17, s18, s19, _, _, s22, s23, s24, s25, s26, s27, s28, s29, s30, s31, s0⟩, rfl, rfl, h0, h2, h3, h4, h6, h7, h8, h10, h11, h12, h13, h15, h16, h17, h18, h19, h20, h22, h23, h24, h25, (fun h => (g1b h).below bn), (fun h => (g5b h).below bn), g9, (fun _ => ⟨a9, c9, rfl⟩), (fun h => (g21 h).below bn), (gW.trans (bn.mono gW.size))⟩
    · have hn15 : b15 = false := by revert hp; cases b15 <;> simp
      have e13 : b13 = true := by revert hp; cases b13 <;> simp
      have e14 : b14 = true := by revert hp; cases b14 <;> simp
      clear hp
      obtain rfl := (HI.out.2.2.2.2.2.2.2.2.2.2.1) e13
      subst hn15
      refine inv_op (o := ⟨some 22, _, _, _, _, _⟩) rfl (fun K' hK' => ?_)
      have g14 := HI.out.2.2.2.2.2.2.2.2.2.2.2.2.2.2.2.2.2.2.2.2.2.2.2.2.1
      obtain ⟨a9, c9, rfl⟩ := g14 e14
      go_simp
      obtain ⟨h0, h2, h3, h4, h6, h7, h8, h10, h11, h12, h13, h15, h16, h17, h18, h19, h20, h22, h23, h24, h25, g1b, g5b, g9, g14, g21, gW⟩ := HI.out
      exact hK'.out _ _ ⟨⟨b0, b1, b2, b3, b4, b5, b6, b7, b8, b9, b10, b11, b12, b13, b14, true, b16, b17, b18, b19, b20, b21, b22, b23, b24, b25, s7, s8, s9, s10, s11, s12, s13, s14, s15, s16, s17, s18, s19, _, _, _, s23, s24, s25, s26, s27, s28, s29, s30, s31, s0⟩, rfl, rfl, h0, h2, h3, h4, h6, h7, h8, h10, h11, h12, h13, (fun _ => rfl), h16, h17, h18, h19, h20, h22, h23, h24, h25, g1b, g5b, g9, g14, g21, gW⟩
    · have hn16 : b16 = false := by revert hp; cases b16 <;> simp
      have e13 : b13 = true := by revert hp; cases b13 <;> simp
      have e15 : b15 = true := by revert hp; cases b15 <;> simp
      clear hp
      obtain rfl := (HI.out.2.2.2.2.2.2.2.2.2.2.1) e13
      obtain rfl := (HI.out.2.2.2.2.2.2.2.2.2.2.2.1) e15
      subst hn16
      refine inv_op (o := ⟨some 23, _, _, _, _, _⟩) rfl (fun K' hK' => ?_)
      go_simp
      obtain ⟨h0, h2, h3, h4, h6, h7, h8, h10, h11, h12, h13, h15, h16, h17, h18, h19, h20, h22, h23, h24, h25, g1b, g5b, g9, g14, g21, gW⟩ := HI.out
      exact hK'.out _ _ ⟨⟨b0, b1, b2, b3, b4, b5, b6, b7, b8, b9, b10, b11, b12, b13, b14, b15, true, b17, b18, b19, b20, b21, b22, b23, b24, b25, s7, s8, s9, s10, s11, s12, s13, s14, s15, s16, s17, s18, s19, _, s21, _, _, s24, s25, s26, s27, s28, s29, s30, s31, s0⟩, rfl, rfl, h0, h2, h3, h4, h6, h7, h8, h10, h11, h12, h13, h15, (fun _ => rfl), h17, h18, h19, h20, h22, h23, h24, h25, g1b, g5b, g9, g14, g21, gW⟩
    · have hn17 : b17 = false := by revert hp; cases b17 <;> simp
      have e13 : b13 = true := by revert hp; cases b13 <;> simp
      have e16 : b16 = true := by revert hp; cases b16 <;> simp
      clear hp
      obtain rfl := (HI.out.2.2.2.2.2.2.2.2.2.2.1) e13
      obtain rfl := (HI.out.2.2.2.2.2.2.2.2.2.2.2.2.1) e16
      subst hn17
      refine inv_op (o := ⟨some 24, _, _, _, _, _⟩) rfl (fun K' hK' => ?_)
      go_simp
      obtain ⟨h0, h2, h3, h4, h6, h7, h8, h10, h11, h12, h13, h15, h16, h17, h18, h19, h20, h22, h23, h24, h25, g1b, g5b, g9, g14, g21, gW⟩ := HI.out
      exact hK'.out _ _ ⟨⟨b0, b1, b2, b3, b4, b5, b6, b7, b8, b9, b10, b11, b12, b13, b14, b15, b16, true, b18, b19, b20, b21, b22, b23, b24, b25, s7, s8, s9, s10, s11, s12, s13, s14, s15, s16, s17, s18, s19, _, s21, s22, _, _, s25, s26, s27, s28, s29, s30, s31, s0⟩, rfl, rfl, h0, h2, h3, h4, h6, h7, h8, h10, h11, h12, h13, h15, h16, (fun _ => rfl), h18, h19, h20, h22, h23, h24, h25, g1b, g5b, g9, g14, g21, gW⟩
    · have hn18 : b18 = false := by revert hp; cases b18 <;> simp
      have e17 : b17 = true := by revert hp; cases b17 <;> simp
      clear hp
      obtain rfl := (HI.out.2.2.2.2.2.2.2.2.2.2.2.2.2.1) e17
      subst hn18
      refine inv_op (o := ⟨some 25, _, _, _, _, _⟩) rfl (fun K' hK' => ?_)
      go_simp
      obtain ⟨h0, h2, h3, h4, h6, h7, h8, h10, h11, h12, h13, h15, h16, h17, h18, h19, h20, h22, h23, h24, h25, g1b, g5b, g9, g14, g21, gW⟩ := HI.out
      exact hK'.out _ _ ⟨⟨b0, b1, b2, b3, b4, b5, b6, b7, b8, b9, b10, b11, b12, b13, b14, b15, b16, b17, true, b19, b20, b21, b22, b23, b24, b25, s7, s8, s9, s10, s11, s12, s13, s14, s15, s16, s17, s18, s19, s20, s21, s22, s23, _, _, s26, s27, s28, s29, s30, s31, s0⟩, rfl, rfl, h0, h2, h3, h4, h6, h7, h8, h10, h11, h12, h13, h15, h16, h17, (fun _ => rfl), h19, h20, h22, h23, h24, h25, g1b, g5b, g9, g14, g21, gW⟩
    · have hn19 : b19 = false := by revert hp; cases b19 <;> simp
      have e18 : b18 = true := by revert hp; cases b18 <;> simp
      clear hp
      obtain rfl := (HI.out.2.2.2.2.2.2.2.2.2.2.2.2.2.2.1) e18
      subst hn19
      refine inv_op (o := ⟨some 26, _, _, _, _, _⟩) rfl (fun K' hK' => ?_)
      go_simp
      rw [← zero32_lit, ← HDZ.out]
      obtain ⟨h0, h2, h3, h4, h6, h7, h8, h10, h11, h12, h13, h15, h16, h17, h18, h19, h20, h22, h23, h24, h25, g1b, g5b, g9, g14, g21, gW⟩ := HI.out
      exact hK'.out _ _ ⟨⟨b0, b1, b2, b3, b4, b5, b6, b7, b8, b9, b10, b11, b12, b13, b14, b15, b16, b17, b18, true, b20, b21, b22, b23, b24, b25, s7, s8, s9, s10, s11, s12, s13, s14, s15, s16, s17, s18, s19, s20, s21, s22, s23, s24, _, _, s27, s28, s29, s30, s31, s0⟩, rfl, rfl, h0, h2, h3, h4, h6, h7, h8, h10, h11, h12, h13, h15, h16, h17, h18, (fun _ => rfl), h20, h22, h23, h24, h25, g1b, g5b, g9, g14, g21, gW⟩
    · have hn20 : b20 = false := by revert hp; cases b20 <;> simp
      have e18 : b18 = true := by revert hp; cases b18 <;> simp
      have e19 : b19 = true := by revert hp; cases b19 <;> simp
      clear hp
      obtain rfl := (HI.out.2.2.2.2.2.2.2.2.2.2.2.2.2.2.1) e18
      obtain rfl := (HI.out.2.2.2.2.2.2.2.2.2.2.2.2.2.2.2.1) e19
      subst hn20
      refine inv_op (o := ⟨some 27, _, _, _, _, _⟩) rfl (fun K' hK' => ?_)
      have gW := HI.out.2.2.2.2.2.2.2.2.2.2.2.2.2.2.2.2.2.2.2.2.2.2.2.2.2.2
      go_simp
      refine (HLK.out W gW).mono ?_
      rintro e w1 ⟨rfl, bn⟩
      obtain ⟨h0, h2, h3, h4, h6, h7, h8, h10, h11, h12, h13, h15, h16, h17, h18, h19, h20, h22, h23, h24, h25, g1b, g5b, g9, g14, g21, gW⟩ := HI.out
      exact hK'.out _ _ ⟨⟨b0, b1, b2, b3, b4, b5, b6, b7, b8, b9, b10, b11, b12, b13, b14, b15, b16, b17, b18, b19, true, b21, b22, b23, b24, b25, s7, s8, s9, s10, s11, s12, s13, s14, s15, s16, s17, s18, s19, s20, s21, s22, s23, s24, _, _, _, s28, s29, s30, s31, s0⟩, rfl, rfl, h0, h2, h3, h4, h6, h7, h8, h10, h11, h12, h13, h15, h16, h17, h18, h19, (fun _ => rfl), h22, h23, h24, h25, (fun h => (g1b h).below bn), (fun h => (g5b h).below bn), g9, g14, (fun h => (g21 h).below bn), (gW.trans (bn.mono gW.size))⟩
    · have hn21 : b21 = false := by revert hp; cases b21 <;> simp
      have e18 : b18 = true := by revert hp; cases b18 <;> simp
      clear hp
      obtain rfl := (HI.out.2.2.2.2.2.2.2.2.2.2.2.2.2.2.1) e18
      subst hn21
      refine inv_op (o := ⟨some 28, _, _, _, _, _⟩) rfl (fun K' hK' => ?_)
      have hmk := HMK.out
      go_simp
      have bn : Below W.heap.size W (W.alloc (.cells zero32 5)) := (Below.refl _ _).alloc (Nat.le_refl _) _
      obtain ⟨h0, h2, h3, h4, h6, h7, h8, h10, h11, h12, h13, h15, h16, h17, h18, h19, h20, h22, h23, h24, h25, g1b, g5b, g9, g14, g21, gW⟩ := HI.out
      exact hK'.out _ _ ⟨⟨b0, b1, b2, b3, b4, b5, b6, b7, b8, b9, b10, b11, b12, b13, b14, b15, b16, b17, b18, b19, b20, true, b22, b23, b24, b25, s7, s8, s9, s10, s11, s12, s13, s14, s15, s16, s17, s18, s19, s20, s21, s22, s23, s24, _, s26, s27, _, s29, s30, s31, s0⟩, rfl, rfl, h0, h2, h3, h4, h6, h7, h8, h10, h11, h12, h13, h15, h16, h17, h18, h19, h20, h22, h23, h24, h25, (fun h => (g1b h).below bn), (fun h => (g5b h).below bn), g9, g14, (fun _ => isArg_new W _ _ _ (List.replicate 32 0) 32 (by show zeros 32 = _; simp [zeros, byteCells]) (by simp) (by decide)), (gW.trans (bn.mono gW.size))⟩
    · have hn22 : b22 = false := by revert hp; cases b22 <;> simp
      have e18 : b18 = true := by revert hp; cases b18 <;> simp
      have e21 : b21 = true := by revert hp; cases b21 <;> simp
      clear hp
      obtain rfl := (HI.out.2.2.2.2.2.2.2.2.2.2.2.2.2.2.1) e18
      subst hn22
      refine inv_op (o := ⟨some 29, _, _, _, _, _⟩) rfl (fun K' hK' => ?_)
      have g21 := HI.out.2.2.2.2.2.2.2.2.2.2.2.2.2.2.2.2.2.2.2.2.2.2.2.2.2.1
      have gW := HI.out.2.2.2.2.2.2.2.2.2.2.2.2.2.2.2.2.2.2.2.2.2.2.2.2.2.2
      have hk2 := g21 e21
      obtain ⟨a8, c8, hs8⟩ := hk2.1.shape
      have hs8 : s28 = .slice a8 32 c8 := hs8
      subst hs8
      go_simp
      refine (HOF.out W gW _ hk2).mono ?_
      rintro e w1 ⟨rfl, bn⟩
      obtain ⟨h0, h2, h3, h4, h6, h7, h8, h10, h11, h12, h13, h15, h16, h17, h18, h19, h20, h22, h23, h24, h25, g1b, g5b, g9, g14, g21, gW⟩ := HI.out
      exact hK'.out _ _ ⟨⟨b0, b1, b2, b3, b4, b5, b6, b7, b8, b9, b10, b11, b12, b13, b14, b15, b16, b17, b18, b19, b20, b21, true, b23, b24, b25, s7, s8, s9, s10, s11, s12, s13, s14, s15, s16, s17, s18, s19, s20, s21, s22, s23, s24, _, s26, s27, _, _, s30, s31, s0⟩, rfl, rfl, h0, h2, h3, h4, h6, h7, h8, h10, h11, h12, h13, h15, h16, h17, h18, h19, h20, (fun _ => rfl), h23, h24, h25, (fun h => (g1b h).below bn), (fun h => (g5b h).below bn), g9, g14, (fun h => (g21 h).below bn), (gW.trans (bn.mono gW.size))⟩
    · have hn23 : b23 = false := by revert hp; cases b23 <;> simp
      have e18 : b18 = true := by revert hp; cases b18 <;> simp
      have e20 : b20 = true := by revert hp; cases b20 <;> simp
      have e22 : b22 = true := by revert hp; cases b22 <;> simp
      clear hp
      obtain rfl := (HI.out.2.2.2.2.2.2.2.2.2.2.2.2.2.2.1) e18
      obtain rfl := (HI.out.2.2.2.2.2.2.2.2.2.2.2.2.2.2.2.2.1) e20
      obtain rfl := (HI.out.2.2.2.2.2.2.2.2.2.2.2.2.2.2.2.2.2.1) e22
      subst hn23
      refine inv_op (o := ⟨some 30, _, _, _, _, _⟩) rfl (fun K' hK' => ?_)
      have hq := HEQ.out W
      go_simp
      obtain ⟨h0, h2, h3, h4, h6, h7, h8, h10, h11, h12, h13, h15, h16, h17, h18, h19, h20, h22, h23, h24, h25, g1b, g5b, g9, g14, g21, gW⟩ := HI.out
      exact hK'.out _ _ ⟨⟨b0, b1, b2, b3, b4, b5, b6, b7, b8, b9, b10, b11, b12, b13, b14, b15, b16, b17, b18, b19, b20, b21, b22, true, b24, b25, s7, s8, s9, s10, s11, s12, s13, s14, s15, s16, s17, s18, s19, s20, s21, s22, s23, s24, _, s26, _, s28, _, _, s31, s0⟩, rfl, rfl, h0, h2, h3, h4, h6, h7, h8, h10, h11, h12, h13, h15, h16, h17, h18, h19, h20, h22, (fun _ => rfl), h24, h25, g1b, g5b, g9, g14, g21, gW⟩
    · have hn24 : b24 = false := by revert hp; cases b24 <;> simp
      have e18 : b18 = true := by revert hp; cases b18 <;> simp
      have e23 : b23 = true := by revert hp; cases b23 <;> simp
      clear hp
      obtain rfl := (HI.out.2.2.2.2.2.2.2.2.2.2.2.2.2.2.1) e18
      obtain rfl := (HI.out.2.2.2.2.2.2.2.2.2.2.2.2.2.2.2.2.2.2.1) e23
      subst hn24
      refine inv_op (o := ⟨some 31, _, _, _, _, _⟩) rfl (fun K' hK' => ?_)
      go_simp
      obtain ⟨h0, h2, h3, h4, h6, h7, h8, h10, h11, h12, h13, h15, h16, h17, h18, h19, h20, h22, h23, h24, h25, g1b, g5b, g9, g14, g21, gW⟩ := HI.out
      exact hK'.out _ _ ⟨⟨b0, b1, b2, b3, b4, b5, b6, b7, b8, b9, b10, b11, b12, b13, b14, b15, b16, b17, b18, b19, b20, b21, b22, b23, true, b25, s7, s8, s9, s10, s11, s12, s13, s14, s15, s16, s17, s18, s19, s20, s21, s22, s23, s24, _, s26, s27, s28, s29, _, _, s0⟩, rfl, rfl, h0, h2, h3, h4, h6, h7, h8, h10, h11, h12, h13, h15, h16, h17, h18, h19, h20, h22, h23, (fun _ => rfl), h25, g1b, g5b, g9, g14, g21, gW⟩
    · have hn25 : b25 = false := by revert hp; cases b25 <;> simp
      have e24 : b24 = true := by revert hp; cases b24 <;> simp
      clear hp
      obtain rfl := (HI.out.2.2.2.2.2.2.2.2.2.2.2.2.2.2.2.2.2.2.2.1) e24
      subst hn25
      refine inv_op (o := ⟨some 0, _, _, _, _, _⟩) rfl (fun K' hK' => ?_)
      go_simp
      obtain ⟨h0, h2, h3, h4, h6, h7, h8, h10, h11, h12, h13, h15, h16, h17, h18, h19, h20, h22, h23, h24, h25, g1b, g5b, g9, g14, g21, gW⟩ := HI.out
      exact hK'.out _ _ ⟨⟨b0, b1, b2, b3, b4, b5, b6, b7, b8, b9, b10, b11, b12, b13, b14, b15, b16, b17, b18, b19, b20, b21, b22, b23, b24, true, s7, s8, s9, s10, s11, s12, s13, s14, s15, s16, s17, s18, s19, s20, s21, s22, s23, s24, s25, s26, s27, s28, s29, s30, _, _⟩, rfl, rfl, h0, h2, h3, h4, h6, h7, h8, h10, h11, h12, h13, h15, h16, h17, h18, h19, h20, h22, h23, h24, (fun _ => rfl), g1b, g5b, g9, g14, g21, gW⟩
  case hdone =>
    rintro ⟨b0, b1, b2, b3, b4, b5, b6, b7, b8, b9, b10, b11, b12, b13, b14, b15, b16, b17, b18, b19, b20, b21, b22, b23, b24, b25, s7, s8, s9, s10, s11, s12, s13, s14, s15, s16, s17, s18, s19, s20, s21, s22, s23, s24, s25, s26, s27, s28, s29, s30, s31, s0⟩ W hI hall
    dsimp only at hI hall ⊢
    have HI := Lib.hid hI
    clear hI
    obtain rfl : b25 = true := hall 25 (by decide)
    obtain rfl := (HI.out.2.2.2.2.2.2.2.2.2.2.2.2.2.2.2.2.2.2.2.2.1) rfl
    have gW := HI.out.2.2.2.2.2.2.2.2.2.2.2.2.2.2.2.2.2.2.2.2.2.2.2.2.2.2
    clear HI hall
    have GW := Lib.hid gW
    clear gW
    go_wp2_with fail
    go_ret
    exact ⟨rfl, HBF.out.trans (GW.out.mono HBF.out.size)⟩
end Go.Proofs.YtfaiblngchdpmaaDoor
