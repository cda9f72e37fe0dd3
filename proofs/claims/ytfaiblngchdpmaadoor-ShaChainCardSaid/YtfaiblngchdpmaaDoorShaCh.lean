/- The law ShaChain returns true for every input, where the two tables hold what is laid. -/
import Derived.Test.YtfaiblngchdpmaaDoorShaCr
namespace Go.Proofs.YtfaiblngchdpmaaDoor
open Go.RowKit Go.Lib

def ChRel (w : World) (B na bp bq : Nat) (C D : List UInt8) (Za Zb : Nat → List UInt8) (c9 c10 c13 c14 : Value) (wr : World) : Prop :=
  ∃ (i : Nat) (xs ys : List Value), i ≤ na ∧ c14 = .int .i64 i ∧ c13 = .bool (sames C D Za Zb i) ∧ Texts B wr c9 i xs (chX C Za) ∧ Texts B wr c10 i ys (chX D Zb) ∧ (∀ k, c9.ownBlock = some k → c10.ownBlock ≠ some k) ∧
    wr.heap[bp]? = some (.cells (byteCells (chF C Za i)).toArray 33 (0, 0)) ∧ wr.heap[bq]? = some (.cells (byteCells (chF D Zb i)).toArray 33 (0, 0)) ∧ Below B w wr ∧ ∀ j, j < i → (Za j).length ≤ 100 ∧ (Zb j).length ≤ 100
structure ChainA where
  b0 : Bool
  b1 : Bool
  b2 : Bool
  b3 : Bool
  b4 : Bool
  b5 : Bool
  b6 : Bool
  b7 : Bool
  b8 : Bool
  b9 : Bool
  s27 : Value
  s28 : Value
  s29 : Value
  s30 : Value
  s31 : Value
  s11 : Value
  s12 : Value
  s13 : Value
structure ChainB where
  b0 : Bool
  b1 : Bool
  b2 : Bool
  b3 : Bool
  b4 : Bool
  b5 : Bool
  b6 : Bool
  b7 : Bool
  b8 : Bool
  b9 : Bool
  b10 : Bool
  b11 : Bool
  s53 : Value
  s54 : Value
  s55 : Value
  s56 : Value
  s57 : Value
  s58 : Value
  s59 : Value
  s60 : Value
  s61 : Value
  s62 : Value
  s63 : Value
  s9 : Value
structure ChainC where
  b0 : Bool
  b1 : Bool
  b2 : Bool
  b3 : Bool
  b4 : Bool
  b5 : Bool
  b6 : Bool
  b7 : Bool
  b8 : Bool
  b9 : Bool
  b10 : Bool
  b11 : Bool
  s64 : Value
  s65 : Value
  s66 : Value
  s67 : Value
  s68 : Value
  s69 : Value
  s70 : Value
  s71 : Value
  s72 : Value
  s73 : Value
  s74 : Value
  s10 : Value
structure ChainD where
  b0 : Bool
  b1 : Bool
  b2 : Bool
  b3 : Bool
  b4 : Bool
  b5 : Bool
  b6 : Bool
  b7 : Bool
  b8 : Bool
  b9 : Bool
  b10 : Bool
  b11 : Bool
  b12 : Bool
  b13 : Bool
  s75 : Value
  s76 : Value
  s77 : Value
  s78 : Value
  s79 : Value
  s80 : Value
  s81 : Value
  s82 : Value
  s83 : Value
  s84 : Value
  s85 : Value
  s86 : Value
structure ChainE where
  b0 : Bool
  b1 : Bool
  b2 : Bool
  b3 : Bool
  b4 : Bool
  b5 : Bool
  b6 : Bool
  b7 : Bool
  b8 : Bool
  b9 : Bool
  b10 : Bool
  b11 : Bool
  b12 : Bool
  b13 : Bool
  b14 : Bool
  b15 : Bool
  b16 : Bool
  b17 : Bool
  b18 : Bool
  b19 : Bool
  b20 : Bool
  b21 : Bool
  b22 : Bool
  s121 : Value
  s122 : Value
  s123 : Value
  s124 : Value
  s125 : Value
  s126 : Value
  s127 : Value
  s128 : Value
  s129 : Value
  s130 : Value
  s131 : Value
  s132 : Value
  s133 : Value
  s134 : Value
  s135 : Value
  s136 : Value
  s137 : Value
  s138 : Value
  s139 : Value
  s140 : Value
  s141 : Value
  s142 : Value
  s143 : Value
set_option maxRecDepth 100000 in
set_option maxHeartbeats 4000000 in
theorem shaChain_in (w : World) (hL : Laid w) (va : Value) (na : Nat) (Va : Nat → Value) (Za : Nat → List UInt8) (ha : IsRows w va na Va Za) (vb : Value) (nb : Nat) (Vb : Nat → Value) (Zb : Nat → List UInt8) (hb : IsRows w vb nb Vb Zb) (C : List UInt8) (hC : C.length = 32) (D : List UInt8) (hD : D.length = 32) (h8 : na ≤ 8) (hab : na ≤ nb) :
    Calls Tryd.prog 6 #[va, vb, .agg (byteCells C).toArray, .agg (byteCells D).toArray] w fun e w' => e = .returned (.bool true) ∧ Below w.heap.size w w' := by
  obtain ⟨i0, hi, hz0, hz1, hz2⟩ := info_parts info8
  obtain ⟨a, ca, rfl, hla⟩ := ha.len_le
  obtain ⟨b, cb, rfl, hlb⟩ := hb.len_le
  obtain ⟨CV, hCV⟩ : ∃ X, X = (byteCells C).toArray := ⟨_, rfl⟩
  obtain ⟨DV, hDV⟩ : ∃ X, X = (byteCells D).toArray := ⟨_, rfl⟩
  rw [← hCV, ← hDV]
  obtain ⟨W0, hW0⟩ : ∃ W, W = (w.alloc (.cells CV 33)).alloc (.cells DV 33) := ⟨_, rfl⟩
  obtain ⟨B, hB⟩ : ∃ B, B = w.heap.size := ⟨_, rfl⟩
  have hb0 : Below B w W0 := by rw [hW0, hB]; exact ((Below.refl _ _).alloc (Nat.le_refl _) _).alloc (by simp) _
  have HC0 := Lib.hid (show W0.heap[B]? = some (.cells CV 33 (0, 0)) by rw [hW0, hB]; exact heap_alloc2_old w _ _)
  have HD0 := Lib.hid (show W0.heap[B + 1]? = some (.cells DV 33 (0, 0)) by rw [hW0, hB]; exact heap_alloc2_new w _ _)
  have hs0 : W0.heap.size = B + 2 := by rw [hW0, hB]; simp
  have HA := Lib.hid (show ∀ W, Below B w W → IsRows W (.slice a na ca) na Va Za from fun W h => ha.below (by rw [← hB]; exact h))
  have HB := Lib.hid (show ∀ W, Below B w W → IsRows W (.slice b nb cb) nb Vb Zb from fun W h => hb.below (by rw [← hB]; exact h))
  have HL := Lib.hid (show ∀ W, Below B w W → Laid W from fun W h => hL.below (by rw [← hB]; exact h))
  have HCZ := Lib.hid (show (some 32 : Option Nat) = some CV.size ∧ zero32.size = CV.size ∧ CV.all (·.oneCell') = true from ⟨by rw [hCV]; simp [byteCells, hC], by rw [hCV]; simp [byteCells, hC]; rfl, by rw [hCV]; exact all_oneCell_toArray (byteCells_one _)⟩)
  have HDZ := Lib.hid (show (some 32 : Option Nat) = some DV.size ∧ zero32.size = DV.size ∧ DV.all (·.oneCell') = true from ⟨by rw [hDV]; simp [byteCells, hD], by rw [hDV]; simp [byteCells, hD]; rfl, by rw [hDV]; exact all_oneCell_toArray (byteCells_one _)⟩)
  have HEQ0 := Lib.hid (show ∀ W : World, (Op.equalIn 10000 33 (.agg CV) (.agg DV)).run Tryd.prog W = .ok (decide (C = D)) W from fun W => by
    rw [hCV, hDV, equalIn_bytes W 33 5 32 _ _ hC hD und32 Tryd.underlying5 size8])
  have HCV := Lib.hid hCV
  have HDV := Lib.hid hDV
  have HCD := Lib.hid (show C.length = 32 ∧ D.length = 32 from ⟨hC, hD⟩)
  have HW0 := Lib.hid hW0
  have HBB := Lib.hid hB
  have HB0 := Lib.hid hb0
  clear hL ha hb hC hD hCV hDV hW0 hB hb0
  go_enter Tryd.func6, Tryd.ntmps6
  go_upto_region 4 with fail
  rw [← HW0.out, ← HBB.out]
  generalize Value.bool (decide ((8 : Int) < (na : Int)) || decide (nb < na)) = u25
  generalize Value.bool (decide (nb < na)) = u24
  generalize Value.bool (decide ((8 : Int) < (na : Int))) = u18
  refine wp_region_rec (X := ChainA) (by kernel_rfl) (by kernel_rfl) (fun x => #[x.b0, x.b1, x.b2, x.b3, x.b4, x.b5, x.b6, x.b7, x.b8, x.b9]) (fun x => { tmps := List.toArray ((.slice a na ca) :: (.slice b nb cb) :: (.agg CV) :: (.agg DV) :: undef :: undef :: (.pointer (some ⟨B, 0, none⟩)) :: (.pointer (some ⟨B + 1, 0, none⟩)) :: (.bool false) :: (.slice none 0 0) :: (.slice none 0 0) :: x.s11 :: x.s12 :: x.s13 :: undef :: undef :: (.slice a na ca) :: (.int .i64 na) :: u18 :: u18 :: (.slice b nb cb) :: (.int .i64 nb) :: (.slice a na ca) :: (.int .i64 na) :: u24 :: u25 :: undef :: x.s27 :: x.s28 :: x.s29 :: x.s30 :: x.s31 :: undef :: undef :: undef :: undef :: undef :: undef :: undef :: undef :: undef :: undef :: undef :: undef :: undef :: undef :: undef :: undef :: undef :: undef :: undef :: undef :: undef :: undef :: undef :: undef :: undef :: undef :: undef :: undef :: undef :: undef :: undef :: undef :: undef :: undef :: undef :: undef :: undef :: undef :: undef :: undef :: undef :: undef :: undef :: undef :: undef :: undef :: undef :: undef :: undef :: undef :: undef :: undef :: undef :: undef :: undef :: undef :: undef :: undef :: undef :: undef :: undef :: undef :: undef :: undef :: undef :: undef :: undef :: undef :: undef :: undef :: undef :: undef :: undef :: undef :: undef :: undef :: undef :: undef :: undef :: undef :: undef :: undef :: undef :: undef :: undef :: undef :: undef :: undef :: undef :: undef :: undef :: undef :: undef :: undef :: undef :: undef :: undef :: undef :: undef :: undef :: undef :: undef :: undef :: undef :: undef :: undef :: undef :: undef :: undef :: undef :: undef :: undef :: undef :: undef :: undef :: undef :: undef :: undef :: undef :: []), defers := [] }) (fun x W => (x.b0 = true → x.s27 = .agg CV) ∧ (x.b1 = true → x.s28 = .agg DV) ∧ (x.b2 = true → x.s29 = .agg CV) ∧ (x.b3 = true → x.s30 = .agg DV) ∧ (x.b4 = true → x.s31 = .bool (decide (C = D))) ∧ (x.b9 = true → x.s13 = .bool (decide (C = D))) ∧ (x.b7 = true → x.b5 = true) ∧ (x.b8 = true → x.b6 = true) ∧ (x.b5 = true → ∃ g, x.s11 = .pointer (some ⟨g, 0, none⟩) ∧ B + 2 ≤ g ∧ W.heap[g]? = some (.cells (if x.b7 then CV else zero32) 33 (0, 0))) ∧ (x.b6 = true → ∃ g, x.s12 = .pointer (some ⟨g, 0, none⟩) ∧ B + 2 ≤ g ∧ W.heap[g]? = some (.cells (if x.b8 then DV else zero32) 33 (0, 0))) ∧ (x.b5 = true → x.b6 = true → x.s11 ≠ x.s12) ∧ (B + 2 ≤ W.heap.size) ∧ (Below (B + 2) W0 W)) ⟨false, false, false, false, false, false, false, false, false, false, undef, undef, undef, undef, undef, undef, undef, undef⟩ rfl rfl ⟨(fun h => by cases h), (fun h => by cases h), (fun h => by cases h), (fun h => by cases h), (fun h => by cases h), (fun h => by cases h), (fun h => by cases h), (fun h => by cases h), (fun h => by cases h), (fun h => by cases h), (fun h => by cases h), (by show B + 2 ≤ W0.heap.size; omega), (Below.refl _ _).drew⟩ (fun _ => rfl) ?hstep ?hdone
  case hstep =>
    rintro ⟨b0, b1, b2, b3, b4, b5, b6, b7, b8, b9, s27, s28, s29, s30, s31, s11, s12, s13⟩ W hI i hi
    dsimp only at hI hi ⊢
    have HI := Lib.hid hI
    clear hI
    rw [Region.ready, List.mem_filter, List.mem_range] at hi
    obtain ⟨hlt, hp⟩ := hi
    have hi7 : i = 0 ∨ i = 1 ∨ i = 2 ∨ i = 3 ∨ i = 4 ∨ i = 5 ∨ i = 6 ∨ i = 7 ∨ i = 8 ∨ i = 9 := by simp at hlt; omega
    clear hlt
    rcases hi7 with rfl | rfl | rfl | rfl | rfl | rfl | rfl | rfl | rfl | rfl
    all_goals simp [Region.binds] at hp
    · have hn0 : b0 = false := by revert hp; cases b0 <;> simp
      clear hp
      subst hn0
      refine inv_op (o := ⟨some 27, _, _, _, _, _⟩) rfl (fun K' hK' => ?_)
      have gW := HI.out.2.2.2.2.2.2.2.2.2.2.2.2
      rw [if_pos (by kernel_rfl)]
      refine wp_load_row 33 _ rfl (B) rfl 33 CV (0, 0) _ ((gW.block B (by omega)).trans HC0.out) und32 rfl (info32.trans HCZ.out.1) ?_
      obtain ⟨h0, h1, h2, h3, h4, h9, d7, d8, g5f, g6f, gne, gS, gW⟩ := HI.out
      exact hK'.out _ _ ⟨⟨true, b1, b2, b3, b4, b5, b6, b7, b8, b9, _, s28, s29, s30, s31, s11, s12, s13⟩, rfl, rfl, (fun _ => rfl), h1, h2, h3, h4, h9, d7, d8, g5f, g6f, gne, gS, gW⟩
    · have hn1 : b1 = false := by revert hp; cases b1 <;> simp
      clear hp
      subst hn1
      refine inv_op (o := ⟨some 28, _, _, _, _, _⟩) rfl (fun K' hK' => ?_)
      have gW := HI.out.2.2.2.2.2.2.2.2.2.2.2.2
      rw [if_pos (by kernel_rfl)]
      refine wp_load_row 33 _ rfl (B + 1) rfl 33 DV (0, 0) _ ((gW.block (B + 1) (by omega)).trans HD0.out) und32 rfl (info32.trans HDZ.out.1) ?_
      obtain ⟨h0, h1, h2, h3, h4, h9, d7, d8, g5f, g6f, gne, gS, gW⟩ := HI.out
      exact hK'.out _ _ ⟨⟨b0, true, b2, b3, b4, b5, b6, b7, b8, b9, s27, _, s29, s30, s31, s11, s12, s13⟩, rfl, rfl, h0, (fun _ => rfl), h2, h3, h4, h9, d7, d8, g5f, g6f, gne, gS, gW⟩
    · have hn2 : b2 = false := by revert hp; cases b2 <;> simp
      clear hp
      subst hn2
      refine inv_op (o := ⟨some 29, _, _, _, _, _⟩) rfl (fun K' hK' => ?_)
      have gW := HI.out.2.2.2.2.2.2.2.2.2.2.2.2
      rw [if_pos (by kernel_rfl)]
      refine wp_load_row 33 _ rfl (B) rfl 33 CV (0, 0) _ ((gW.block B (by omega)).trans HC0.out) und32 rfl (info32.trans HCZ.out.1) ?_
      obtain ⟨h0, h1, h2, h3, h4, h9, d7, d8, g5f, g6f, gne, gS, gW⟩ := HI.out
      exact hK'.out _ _ ⟨⟨b0, b1, true, b3, b4, b5, b6, b7, b8, b9, s27, s28, _, s30, s31, s11, s12, s13⟩, rfl, rfl, h0, h1, (fun _ => rfl), h3, h4, h9, d7, d8, g5f, g6f, gne, gS, gW⟩
    · have hn3 : b3 = false := by revert hp; cases b3 <;> simp
      clear hp
      subst hn3
      refine inv_op (o := ⟨some 30, _, _, _, _, _⟩) rfl (fun K' hK' => ?_)
      have gW := HI.out.2.2.2.2.2.2.2.2.2.2.2.2
      rw [if_pos (by kernel_rfl)]
      refine wp_load_row 33 _ rfl (B + 1) rfl 33 DV (0, 0) _ ((gW.block (B + 1) (by omega)).trans HD0.out) und32 rfl (info32.trans HDZ.out.1) ?_
      obtain ⟨h0, h1, h2, h3, h4, h9, d7, d8, g5f, g6f, gne, gS, gW⟩ := HI.out
      exact hK'.out _ _ ⟨⟨b0, b1, b2, true, b4, b5, b6, b7, b8, b9, s27, s28, s29, _, s31, s11, s12, s13⟩, rfl, rfl, h0, h1, h2, (fun _ => rfl), h4, h9, d7, d8, g5f, g6f, gne, gS, gW⟩
    · have hn4 : b4 = false := by revert hp; cases b4 <;> simp
      have e2 : b2 = true := by revert hp; cases b2 <;> simp
      have e3 : b3 = true := by revert hp; cases b3 <;> simp
      clear hp
      obtain rfl := (HI.out.2.2.1) e2
      obtain rfl := (HI.out.2.2.2.1) e3
      subst hn4
      refine inv_op (o := ⟨some 31, _, _, _, _, _⟩) rfl (fun K' hK' => ?_)
      have hq := HEQ0.out W
      go_simp
      obtain ⟨h0, h1, h2, h3, h4, h9, d7, d8, g5f, g6f, gne, gS, gW⟩ := HI.out
      exact hK'.out _ _ ⟨⟨b0, b1, b2, b3, true, b5, b6, b7, b8, b9, s27, s28, _, _, _, s11, s12, s13⟩, rfl, rfl, h0, h1, h2, h3, (fun _ => rfl), h9, d7, d8, g5f, g6f, gne, gS, gW⟩
    · have hn5 : b5 = false := by revert hp; cases b5 <;> simp
      clear hp
      subst hn5
      refine inv_op (o := ⟨some 11, _, _, _, _, _⟩) rfl (fun K' hK' => ?_)
      have d7 := HI.out.2.2.2.2.2.2.1
      have b7f : b7 = false := by cases b7 with | false => rfl | true => exact absurd (d7 rfl) (by simp)
      subst b7f
      go_simp
      rw [← zero32_lit]
      have bn : Below W.heap.size W (W.alloc (.cells zero32 33)) := (Below.refl _ _).alloc (Nat.le_refl _) _
      obtain ⟨h0, h1, h2, h3, h4, h9, d7, d8, g5f, g6f, gne, gS, gW⟩ := HI.out
      exact hK'.out _ _ ⟨⟨b0, b1, b2, b3, b4, true, b6, false, b8, b9, s27, s28, s29, s30, s31, _, s12, s13⟩, rfl, rfl, h0, h1, h2, h3, h4, h9, (fun h => by cases h), d8, (fun _ => ⟨W.heap.size, rfl, gS, heap_alloc_new W _⟩), (ptr_kept bn g6f), (fun _ h5 => ptr_new (g6f h5)), (Nat.le_trans gS bn.size), (gW.trans (bn.mono gS))⟩
    · have hn6 : b6 = false := by revert hp; cases b6 <;> simp
      clear hp
      subst hn6
      refine inv_op (o := ⟨some 12, _, _, _, _, _⟩) rfl (fun K' hK' => ?_)
      have d8 := HI.out.2.2.2.2.2.2.2.1
      have b8f : b8 = false := by cases b8 with | false => rfl | true => exact absurd (d8 rfl) (by simp)
      subst b8f
      go_simp
      rw [← zero32_lit]
      have bn : Below W.heap.size W (W.alloc (.cells zero32 33)) := (Below.refl _ _).alloc (Nat.le_refl _) _
      obtain ⟨h0, h1, h2, h3, h4, h9, d7, d8, g5f, g6f, gne, gS, gW⟩ := HI.out
      exact hK'.out _ _ ⟨⟨b0, b1, b2, b3, b4, b5, true, b7, false, b9, s27, s28, s29, s30, s31, s11, _, s13⟩, rfl, rfl, h0, h1, h2, h3, h4, h9, d7, (fun h => by cases h), (ptr_kept bn g5f), (fun _ => ⟨W.heap.size, rfl, gS, heap_alloc_new W _⟩), (fun h4 _ => Ne.symm (ptr_new (g5f h4))), (Nat.le_trans gS bn.size), (gW.trans (bn.mono gS))⟩
    · have hn7 : b7 = false := by revert hp; cases b7 <;> simp
      have e0 : b0 = true := by revert hp; cases b0 <;> simp
      have e5 : b5 = true := by revert hp; cases b5 <;> simp
      clear hp
      obtain rfl := (HI.out.1) e0
      subst hn7
      refine inv_op (o := ⟨none, _, _, _, _, _⟩) rfl (fun K' hK' => ?_)
      have g5f := HI.out.2.2.2.2.2.2.2.2.1
      obtain ⟨g, rfl, hg2, hgh⟩ := g5f e5
      rw [if_pos (by kernel_rfl)]
      refine wp_store_row 33 _ _ rfl g CV rfl rfl 33 zero32 hgh (info32.trans HCZ.out.1) HCZ.out.2.1 HCZ.out.2.2 ?_
      obtain ⟨h0, h1, h2, h3, h4, h9, d7, d8, g5f, g6f, gne, gS, gW⟩ := HI.out
      exact hK'.out _ _ ⟨⟨b0, b1, b2, b3, b4, b5, b6, true, b8, b9, _, s28, s29, s30, s31, _, s12, s13⟩, rfl, rfl, h0, h1, h2, h3, h4, h9, (fun _ => e5), d8, (fun _ => ⟨g, rfl, hg2, setRow_heap _ _ _ _ _ _ hgh⟩), (fun h5 => ptr_other (g6f h5) (gne e5 h5)), gne, (by rw [setRow_size]; exact gS), (below_setRow gW hg2 _)⟩
    · have hn8 : b8 = false := by revert hp; cases b8 <;> simp
      have e1 : b1 = true := by revert hp; cases b1 <;> simp
      have e6 : b6 = true := by revert hp; cases b6 <;> simp
      clear hp
      obtain rfl := (HI.out.2.1) e1
      subst hn8
      refine inv_op (o := ⟨none, _, _, _, _, _⟩) rfl (fun K' hK' => ?_)
      have g6f := HI.out.2.2.2.2.2.2.2.2.2.1
      obtain ⟨g, rfl, hg2, hgh⟩ := g6f e6
      rw [if_pos (by kernel_rfl)]
      refine wp_store_row 33 _ _ rfl g DV rfl rfl 33 zero32 hgh (info32.trans HDZ.out.1) HDZ.out.2.1 HDZ.out.2.2 ?_
      obtain ⟨h0, h1, h2, h3, h4, h9, d7, d8, g5f, g6f, gne, gS, gW⟩ := HI.out
      exact hK'.out _ _ ⟨⟨b0, b1, b2, b3, b4, b5, b6, b7, true, b9, s27, _, s29, s30, s31, s11, _, s13⟩, rfl, rfl, h0, h1, h2, h3, h4, h9, d7, (fun _ => e6), (fun h4 => ptr_other (g5f h4) (Ne.symm (gne h4 e6))), (fun _ => ⟨g, rfl, hg2, setRow_heap _ _ _ _ _ _ hgh⟩), gne, (by rw [setRow_size]; exact gS), (below_setRow gW hg2 _)⟩
    · have hn9 : b9 = false := by revert hp; cases b9 <;> simp
      have e4 : b4 = true := by revert hp; cases b4 <;> simp
      clear hp
      obtain rfl := (HI.out.2.2.2.2.1) e4
      subst hn9
      refine inv_op (o := ⟨some 13, _, _, _, _, _⟩) rfl (fun K' hK' => ?_)
      go_simp
      obtain ⟨h0, h1, h2, h3, h4, h9, d7, d8, g5f, g6f, gne, gS, gW⟩ := HI.out
      exact hK'.out _ _ ⟨⟨b0, b1, b2, b3, b4, b5, b6, b7, b8, true, s27, s28, s29, s30, _, s11, s12, _⟩, rfl, rfl, h0, h1, h2, h3, h4, (fun _ => rfl), d7, d8, g5f, g6f, gne, gS, gW⟩
  case hdone =>
    rintro ⟨b0, b1, b2, b3, b4, b5, b6, b7, b8, b9, s27, s28, s29, s30, s31, s11, s12, s13⟩ W hI hall
    dsimp only at hI hall ⊢
    have HI := Lib.hid hI
    clear hI
    obtain rfl : b5 = true := hall 5 (by decide)
    obtain rfl : b6 = true := hall 6 (by decide)
    obtain rfl : b7 = true := hall 7 (by decide)
    obtain rfl : b8 = true := hall 8 (by decide)
    obtain rfl : b9 = true := hall 9 (by decide)
    obtain rfl := (HI.out.2.2.2.2.2.1) rfl
    have g5f := HI.out.2.2.2.2.2.2.2.2.1
    have g6f := HI.out.2.2.2.2.2.2.2.2.2.1
    have gne := HI.out.2.2.2.2.2.2.2.2.2.2.1
    have gW := HI.out.2.2.2.2.2.2.2.2.2.2.2.2
    clear HI hall
    obtain ⟨bp, rfl, hbp, hp⟩ := g5f rfl
    obtain ⟨bq, rfl, hbq, hq⟩ := g6f rfl
    have hpq : bp ≠ bq := fun e => gne rfl rfl (by rw [e])
    rw [if_pos rfl] at hp hq
    have HP0 := Lib.hid (show W.heap[bp]? = some (.cells (byteCells (chF C Za 0)).toArray 33 (0, 0)) by rw [HCV.out] at hp; exact hp)
    have HQ0 := Lib.hid (show W.heap[bq]? = some (.cells (byteCells (chF D Zb 0)).toArray 33 (0, 0)) by rw [HDV.out] at hq; exact hq)
    have HW := Lib.hid (show Below B w W from HB0.out.trans (gW.mono (by omega)))
    clear g5f g6f gne gW hp hq
    have hsame0 : decide (C = D) = sames C D Za Zb 0 := rfl
    rw [hsame0]
    clear hsame0
    go_wp2_with fail
    go_loopw [9, 10, 13, 14] (fun c9 c10 c13 c14 wr => ChRel w B na bp bq C D Za Zb c9 c10 c13 c14 wr) (fun _ _ _ c _ => na - (RowKit.intOf c).toNat)
    case atStart => exact ⟨0, [], [], Nat.zero_le _, rfl, rfl, Texts.nil _ _ _, Texts.nil _ _ _, (fun k hk => by cases hk), HP0.out, HQ0.out, HW.out, fun j hj => absurd hj (by omega)⟩
    case round =>
      obtain ⟨i, xs, ys, hin, rfl, rfl, tx, ty, hne, hp, hq, bw, hlen⟩ := hrel
      have LEN := Lib.hid hlen
      have TX := Lib.hid tx
      have TY := Lib.hid ty
      have NE := Lib.hid hne
      have HP := Lib.hid hp
      have HQ := Lib.hid hq
      have BW := Lib.hid bw
      clear tx ty hne hp hq bw hlen
      by_cases hlt : i < na
      · obtain ⟨a', c', e1, e2, e3, e4, e5⟩ := HA.out _ BW.out
        cases e1
        obtain ⟨ad, rfl, e6⟩ := e4 (by omega)
        obtain ⟨b', d', f1, f2, f3, f4, f5⟩ := HB.out _ BW.out
        cases f1
        obtain ⟨bd, rfl, f6⟩ := f4 (by omega)
        have hva := e5 i hlt
        have hvb := f5 i (by omega)
        have hca := e6 i hlt
        have hcb := f6 i (by omega)
        obtain ⟨av, cv, hVa⟩ := hva.1.shape
        obtain ⟨bv, dv, hVb⟩ := hvb.1.shape
        obtain ⟨NA, hNA⟩ : ∃ n, n = (Za i).length := ⟨_, rfl⟩
        obtain ⟨NB, hNB⟩ : ∃ n, n = (Zb i).length := ⟨_, rfl⟩
        rw [hVa, ← hNA] at hca hva
        rw [hVb, ← hNB] at hcb hvb
        have hla2 : NA ≤ 9223372036854775807 := by
          rcases hva.1 with ⟨_, _, _, h9⟩ | ⟨_, _, c9, _, h1, h2, _⟩
          · rw [hNA, h9]; decide
          · unfold maxLen at h2; omega
        have hlb2 : NB ≤ 9223372036854775807 := by
          rcases hvb.1 with ⟨_, _, _, h9⟩ | ⟨_, _, c9, _, h1, h2, _⟩
          · rw [hNB, h9]; decide
          · unfold maxLen at h2; omega
        have HNA := Lib.hid hNA
        have HNB := Lib.hid hNB
        have HVA := Lib.hid hva
        have HVB := Lib.hid hvb
        have HGA := Lib.hid (show ∀ W, Below B w W → W.cell? (ad.add i) = some (.slice av NA cv) ∧ IsArg W (.slice av NA cv) (Za i) from fun W h => by
          obtain ⟨a9, c9, q1, _, _, q4, q5⟩ := HA.out W h
          cases q1
          obtain ⟨ad9, q2, q6⟩ := q4 (by omega)
          cases q2
          have q7 := q6 i hlt
          have q8 := q5 i hlt
          rw [hVa, ← hNA] at q7 q8
          exact ⟨q7, q8⟩)
        have HGB := Lib.hid (show ∀ W, Below B w W → W.cell? (bd.add i) = some (.slice bv NB dv) ∧ IsArg W (.slice bv NB dv) (Zb i) from fun W h => by
          obtain ⟨a9, c9, q1, _, _, q4, q5⟩ := HB.out W h
          cases q1
          obtain ⟨ad9, q2, q6⟩ := q4 (by omega)
          cases q2
          have q7 := q6 i (by omega)
          have q8 := q5 i (by omega)
          rw [hVb, ← hNB] at q7 q8
          exact ⟨q7, q8⟩)
        clear e2 e3 e4 e5 e6 f2 f3 f4 f5 f6 hVa hVb hva hvb hNA hNB
        by_cases ho : 100 < NA ∨ 100 < NB
        · have HHD := Lib.hid (heads_any _ (HL.out _ BW.out))
          by_cases h1 : 100 < NA
          · clear ho
            go_wp2_with fail
            refine HHD.out.mono ?_
            rintro e w1 ⟨rfl, hb⟩
            have HF := Lib.hid (BW.out.trans (hb.mono (by have := BW.out.size; have := HBB.out; omega)))
            clear hb
            go_wp2_with fail
            go_ret
            rw [← HBB.out]
            exact ⟨rfl, HF.out⟩
          · have h2 : 100 < NB := by omega
            clear ho
            go_wp2_with fail
            refine HHD.out.mono ?_
            rintro e w1 ⟨rfl, hb⟩
            have HF := Lib.hid (BW.out.trans (hb.mono (by have := BW.out.size; have := HBB.out; omega)))
            clear hb
            go_wp2_with fail
            go_ret
            rw [← HBB.out]
            exact ⟨rfl, HF.out⟩
        · have hA1 : NA ≤ 100 := by omega
          have hA2 : NB ≤ 100 := by omega
          clear ho
          go_wp2_with fail
          generalize Value.bool (decide ((100 : Int) < (NA : Int)) || decide ((100 : Int) < (NB : Int))) = u51
          generalize Value.bool (decide ((100 : Int) < (NA : Int))) = u43
          generalize Value.bool (decide ((100 : Int) < (NB : Int))) = u50
          obtain ⟨SM, hSM⟩ : ∃ b, b = sames C D Za Zb i := ⟨_, rfl⟩
          rw [← hSM]
          have HSM := Lib.hid hSM
          obtain ⟨PL, hPL⟩ : ∃ x, x = chF C Za i := ⟨_, rfl⟩
          obtain ⟨QL, hQL⟩ : ∃ x, x = chF D Zb i := ⟨_, rfl⟩
          rw [← hPL] at HP
          rw [← hQL] at HQ
          have HPL := Lib.hid (show PL.length = 32 by rw [hPL]; exact chF_length _ _ HCD.out.1 _)
          have HQL := Lib.hid (show QL.length = 32 by rw [hQL]; exact chF_length _ _ HCD.out.2 _)
          have HPE := Lib.hid hPL
          have HQE := Lib.hid hQL
          have HBW := Lib.hid (show B ≤ wr.heap.size by have := BW.out.size; have := HBB.out; omega)
          have hup : ∀ W, Below wr.heap.size wr W → Below B w W := fun W h => BW.out.trans (h.mono HBW.out)
          have HCA := Lib.hid (show ∀ W, Below wr.heap.size wr W → W.cell? (ad.add i) = some (.slice av NA cv) from fun W h => (h.cell (World.block_lt_of_cell? _ _ hca)).trans hca)
          have HCB := Lib.hid (show ∀ W, Below wr.heap.size wr W → W.cell? (bd.add i) = some (.slice bv NB dv) from fun W h => (h.cell (World.block_lt_of_cell? _ _ hcb)).trans hcb)
          have HIA := Lib.hid (show ∀ W, Below wr.heap.size wr W → (((.slice av NA cv : Value) = .slice none 0 0 ∧ Za i = []) ∨ ∃ ad c, (.slice av NA cv : Value) = .slice (some ad) (Za i).length c ∧ ∀ j u, (byteCells (Za i))[j]? = some u → W.cell? (ad.add j) = some u) from fun W h => (HVA.out.below h).2)
          have HIB := Lib.hid (show ∀ W, Below wr.heap.size wr W → (((.slice bv NB dv : Value) = .slice none 0 0 ∧ Zb i = []) ∨ ∃ ad c, (.slice bv NB dv : Value) = .slice (some ad) (Zb i).length c ∧ ∀ j u, (byteCells (Zb i))[j]? = some u → W.cell? (ad.add j) = some u) from fun W h => (HVB.out.below h).2)
          have HPA := Lib.hid (show ∀ W, Below wr.heap.size wr W → (((.slice (some ⟨bp, 0, none⟩) 32 32 : Value) = .slice none 0 0 ∧ PL = []) ∨ ∃ ad c, (.slice (some ⟨bp, 0, none⟩) 32 32 : Value) = .slice (some ad) PL.length c ∧ ∀ j u, (byteCells PL)[j]? = some u → W.cell? (ad.add j) = some u) from fun W h => ((isArg_of_row HP.out HPL.out (by decide)).below h).2)
          have HQA := Lib.hid (show ∀ W, Below wr.heap.size wr W → (((.slice (some ⟨bq, 0, none⟩) 32 32 : Value) = .slice none 0 0 ∧ QL = []) ∨ ∃ ad c, (.slice (some ⟨bq, 0, none⟩) 32 32 : Value) = .slice (some ad) QL.length c ∧ ∀ j u, (byteCells QL)[j]? = some u → W.cell? (ad.add j) = some u) from fun W h => ((isArg_of_row HQ.out HQL.out (by decide)).below h).2)
          clear hSM hPL hQL hca hcb hup
          refine wp_region_rec (X := ChainB) (by kernel_rfl) (by kernel_rfl) (fun x => #[x.b0, x.b1, x.b2, x.b3, x.b4, x.b5, x.b6, x.b7, x.b8, x.b9, x.b10, x.b11]) (fun x => { tmps := List.toArray ((.slice (some ad) na ca) :: (.slice (some bd) nb cb) :: (.agg CV) :: (.agg DV) :: undef :: undef :: (.pointer (some ⟨B, 0, none⟩)) :: (.pointer (some ⟨B + 1, 0, none⟩)) :: u8 :: x.s9 :: u10 :: (.pointer (some ⟨bp, 0, none⟩)) :: (.pointer (some ⟨bq, 0, none⟩)) :: (.bool SM) :: (.int .i64 i) :: undef :: (.slice (some ad) na ca) :: (.int .i64 na) :: u18 :: u18 :: (.slice (some bd) nb cb) :: (.int .i64 nb) :: (.slice (some ad) na ca) :: (.int .i64 na) :: u24 :: u25 :: undef :: s27 :: s28 :: s29 :: s30 :: s31 :: (.int .i64 i) :: (.slice (some ad) na ca) :: (.int .i64 na) :: (.bool true) :: u36 :: u37 :: (.slice (some ad) na ca) :: (.int .i64 i) :: (.pointer (some (ad.add i))) :: (.slice av NA cv) :: (.int .i64 NA) :: u43 :: u43 :: (.slice (some bd) nb cb) :: (.int .i64 i) :: (.pointer (some (bd.add i))) :: (.slice bv NB dv) :: (.int .i64 NB) :: u50 :: u51 :: u52 :: x.s53 :: x.s54 :: x.s55 :: x.s56 :: x.s57 :: x.s58 :: x.s59 :: x.s60 :: x.s61 :: x.s62 :: x.s63 :: u64 :: u65 :: u66 :: u67 :: u68 :: u69 :: u70 :: u71 :: u72 :: u73 :: u74 :: u75 :: u76 :: u77 :: u78 :: u79 :: u80 :: u81 :: u82 :: u83 :: u84 :: u85 :: u86 :: u87 :: u88 :: u89 :: u90 :: u91 :: u92 :: u93 :: u94 :: u95 :: u96 :: u97 :: u98 :: undef :: undef :: undef :: undef :: undef :: undef :: undef :: undef :: undef :: undef :: undef :: undef :: undef :: undef :: undef :: undef :: undef :: undef :: undef :: undef :: undef :: undef :: undef :: undef :: undef :: undef :: undef :: undef :: undef :: undef :: undef :: undef :: undef :: undef :: undef :: undef :: undef :: undef :: undef :: undef :: undef :: undef :: undef :: undef :: undef :: undef :: undef :: undef :: undef :: undef :: undef :: undef :: []), defers := [] }) (fun x W => (x.b0 = true → x.s53 = u9) ∧ (x.b2 = true → x.s55 = .slice (some ⟨bp, 0, none⟩) 32 32) ∧ (x.b4 = true → x.s57 = .slice (some ad) na ca) ∧ (x.b5 = true → x.s58 = .int .i64 i) ∧ (x.b6 = true → x.s59 = .pointer (some (ad.add i))) ∧ (x.b7 = true → x.s60 = .slice av NA cv) ∧ (x.b11 = true → x.s9 = x.s63) ∧ (x.b3 = true → x.b1 = true) ∧ (x.b8 = true → x.b3 = true ∧ x.b7 = true) ∧ (x.b9 = true → x.b8 = true) ∧ (x.b10 = true → x.b9 = true) ∧ (x.b11 = true → x.b0 = true ∧ x.b10 = true) ∧ (x.b1 = true → x.b3 = false → W.ownsRow wr.heap.size 5 1 x.s54 0 (byteCells [])) ∧ (x.b3 = true → x.b8 = false → W.ownsRow wr.heap.size 5 1 x.s56 32 (byteCells PL)) ∧ (x.b8 = true → W.ownsRow wr.heap.size 5 1 x.s61 (32 + NA) (byteCells (PL ++ Za i))) ∧ (x.b9 = true → x.b10 = false → ∃ g, x.s62 = .slice (some ⟨g, 0, none⟩) 1 1 ∧ W.heap[g]? = some (.cells #[x.s61] 24 (0, 0))) ∧ (x.b10 = false → Below wr.heap.size wr W) ∧ (x.b10 = true → W.ownsRow B 24 1 x.s63 (i + 1) (xs ++ [x.s61]) ∧ wr.grownBy W u9.ownBlock ∧ (x.s63.ownBlock = u9.ownBlock ∨ ∀ k, x.s63.ownBlock = some k → wr.heap.size ≤ k)) ∧ (x.b11 = false → x.s9 = u9)) ⟨false, false, false, false, false, false, false, false, false, false, false, false, u53, u54, u55, u56, u57, u58, u59, u60, u61, u62, u63, u9⟩ rfl rfl ⟨(fun h => by cases h), (fun h => by cases h), (fun h => by cases h), (fun h => by cases h), (fun h => by cases h), (fun h => by cases h), (fun h => by cases h), (fun h => by cases h), (fun h => by cases h), (fun h => by cases h), (fun h => by cases h), (fun h => by cases h), (fun h => by cases h), (fun h => by cases h), (fun h => by cases h), (fun h => by cases h), (fun _ => (Below.refl _ _).drew), (fun h => by cases h), (fun _ => rfl)⟩ (fun _ => rfl) ?hstep ?hdone
          case hstep =>
            rintro ⟨b0, b1, b2, b3, b4, b5, b6, b7, b8, b9, b10, b11, s53, s54, s55, s56, s57, s58, s59, s60, s61, s62, s63, s9⟩ W hI i hi
            dsimp only at hI hi ⊢
            have HI := Lib.hid hI
            clear hI
            rw [Region.ready, List.mem_filter, List.mem_range] at hi
            obtain ⟨hlt, hp⟩ := hi
            have hi7 : i = 0 ∨ i = 1 ∨ i = 2 ∨ i = 3 ∨ i = 4 ∨ i = 5 ∨ i = 6 ∨ i = 7 ∨ i = 8 ∨ i = 9 ∨ i = 10 ∨ i = 11 := by simp at hlt; omega
            clear hlt
            rcases hi7 with rfl | rfl | rfl | rfl | rfl | rfl | rfl | rfl | rfl | rfl | rfl | rfl
            all_goals simp [Region.binds] at hp
            · have hn0 : b0 = false := by revert hp; cases b0 <;> simp
              clear hp
              subst hn0
              refine inv_op (o := ⟨some 53, _, _, _, _, _⟩) rfl (fun K' hK' => ?_)
              have o10 := HI.out.2.2.2.2.2.2.2.2.2.2.2.1
              have gs := HI.out.2.2.2.2.2.2.2.2.2.2.2.2.2.2.2.2.2.2
              have b11f : b11 = false := by cases b11 with | false => rfl | true => exact absurd ((fun h => (o10 h).1) rfl) (by simp)
              subst b11f
              obtain rfl := gs rfl
              go_simp
              obtain ⟨h0, h2, h4, h5, h6, h7, h11, o1, o3, o8, o9, o10, g1, g3, g8, g9, gB, g10, gs⟩ := HI.out
              exact hK'.out _ _ ⟨⟨true, b1, b2, b3, b4, b5, b6, b7, b8, b9, b10, false, _, s54, s55, s56, s57, s58, s59, s60, s61, s62, s63, _⟩, rfl, rfl, (fun _ => rfl), h2, h4, h5, h6, h7, h11, o1, o3, o8, o9, (fun h => by cases h), g1, g3, g8, g9, gB, g10, gs⟩
            · have hn1 : b1 = false := by revert hp; cases b1 <;> simp
              clear hp
              subst hn1
              refine inv_op (o := ⟨some 54, _, _, _, _, _⟩) rfl (fun K' hK' => ?_)
              have o1 := HI.out.2.2.2.2.2.2.2.1
              have o3 := HI.out.2.2.2.2.2.2.2.2.1
              have o8 := HI.out.2.2.2.2.2.2.2.2.2.1
              have o9 := HI.out.2.2.2.2.2.2.2.2.2.2.1
              have gB := HI.out.2.2.2.2.2.2.2.2.2.2.2.2.2.2.2.2.1
              have b3f : b3 = false := by cases b3 with | false => rfl | true => exact absurd (o1 rfl) (by simp)
              subst b3f
              have b8f : b8 = false := by cases b8 with | false => rfl | true => exact absurd ((fun h => (o3 h).1) rfl) (by simp)
              subst b8f
              have b9f : b9 = false := by cases b9 with | false => rfl | true => exact absurd (o8 rfl) (by simp)
              subst b9f
              have b10f : b10 = false := by cases b10 with | false => rfl | true => exact absurd (o9 rfl) (by simp)
              subst b10f
              have gb := gB rfl
              go_simp
              have bn : Below W.heap.size W (W.alloc (.cells #[] 5)) := (Below.refl _ _).alloc (Nat.le_refl _) _
              obtain ⟨h0, h2, h4, h5, h6, h7, h11, o1, o3, o8, o9, o10, g1, g3, g8, g9, gB, g10, gs⟩ := HI.out
              exact hK'.out _ _ ⟨⟨b0, true, b2, false, b4, b5, b6, b7, false, false, false, b11, s53, _, s55, s56, s57, s58, s59, s60, s61, s62, s63, s9⟩, rfl, rfl, h0, h2, h4, h5, h6, h7, h11, (fun h => by cases h), (fun h => by cases h), (fun h => by cases h), (fun h => by cases h), o10, (fun _ _ => World.ownsRow_made W #[] 0 gb.size (by decide) rfl), (fun h => by cases h), (fun h => by cases h), (fun h => by cases h), (fun _ => gb.trans (bn.mono gb.size)), (fun h => by cases h), gs⟩
            · have hn2 : b2 = false := by revert hp; cases b2 <;> simp
              clear hp
              subst hn2
              refine inv_op (o := ⟨some 55, _, _, _, _, _⟩) rfl (fun K' hK' => ?_)
              have hall := digest_all ⟨bp, 0, none⟩ W
              go_simp
              obtain ⟨h0, h2, h4, h5, h6, h7, h11, o1, o3, o8, o9, o10, g1, g3, g8, g9, gB, g10, gs⟩ := HI.out
              exact hK'.out _ _ ⟨⟨b0, b1, true, b3, b4, b5, b6, b7, b8, b9, b10, b11, s53, s54, _, s56, s57, s58, s59, s60, s61, s62, s63, s9⟩, rfl, rfl, h0, (fun _ => rfl), h4, h5, h6, h7, h11, o1, o3, o8, o9, o10, g1, g3, g8, g9, gB, g10, gs⟩
            · have hn3 : b3 = false := by revert hp; cases b3 <;> simp
              have e1 : b1 = true := by revert hp; cases b1 <;> simp
              have e2 : b2 = true := by revert hp; cases b2 <;> simp
              clear hp
              obtain rfl := (HI.out.2.1) e2
              subst hn3
              refine inv_op (o := ⟨some 56, _, _, _, _, _⟩) rfl (fun K' hK' => ?_)
              have o3 := HI.out.2.2.2.2.2.2.2.2.1
              have o8 := HI.out.2.2.2.2.2.2.2.2.2.1
              have o9 := HI.out.2.2.2.2.2.2.2.2.2.2.1
              have g1 := HI.out.2.2.2.2.2.2.2.2.2.2.2.2.1
              have gB := HI.out.2.2.2.2.2.2.2.2.2.2.2.2.2.2.2.2.1
              have b8f : b8 = false := by cases b8 with | false => rfl | true => exact absurd ((fun h => (o3 h).1) rfl) (by simp)
              subst b8f
              have b9f : b9 = false := by cases b9 with | false => rfl | true => exact absurd (o8 rfl) (by simp)
              subst b9f
              have b10f : b10 = false := by cases b10 with | false => rfl | true => exact absurd (o9 rfl) (by simp)
              subst b10f
              have gb := gB rfl
              have h1 := g1 e1 rfl
              obtain ⟨v2, w2, hr, hown, hgr⟩ := bytes_step h1 24 (.slice (some ⟨bp, 0, none⟩) 32 32) PL (HPA.out W gb) (by rw [HPL.out]; decide) gb.size
              have hsz := hgr.size
              have hst := gb.size
              have gb2 := gb.grown hgr hst (fun k hk => (h1.lt k hk).1)
              rw [if_pos (by kernel_rfl)]
              refine Lib.wp_append_run W (.tmp 54) (.tmp 55) 24 24 rfl _ _ rfl rfl v2 w2 hr ?_
              rw [HPL.out] at hown
              obtain ⟨h0, h2, h4, h5, h6, h7, h11, o1, o3, o8, o9, o10, g1, g3, g8, g9, gB, g10, gs⟩ := HI.out
              exact hK'.out _ _ ⟨⟨b0, b1, b2, true, b4, b5, b6, b7, false, false, false, b11, s53, s54, _, _, s57, s58, s59, s60, s61, s62, s63, s9⟩, rfl, rfl, h0, h2, h4, h5, h6, h7, h11, (fun _ => e1), (fun h => by cases h), (fun h => by cases h), (fun h => by cases h), o10, (fun _ h => by cases h), (fun _ _ => by simpa using hown), (fun h => by cases h), (fun h => by cases h), (fun _ => gb2), (fun h => by cases h), gs⟩
            · have hn4 : b4 = false := by revert hp; cases b4 <;> simp
              clear hp
              subst hn4
              refine inv_op (o := ⟨some 57, _, _, _, _, _⟩) rfl (fun K' hK' => ?_)
              go_simp
              obtain ⟨h0, h2, h4, h5, h6, h7, h11, o1, o3, o8, o9, o10, g1, g3, g8, g9, gB, g10, gs⟩ := HI.out
              exact hK'.out _ _ ⟨⟨b0, b1, b2, b3, true, b5, b6, b7, b8, b9, b10, b11, s53, s54, s55, s56, _, s58, s59, s60, s61, s62, s63, s9⟩, rfl, rfl, h0, h2, (fun _ => rfl), h5, h6, h7, h11, o1, o3, o8, o9, o10, g1, g3, g8, g9, gB, g10, gs⟩
            · have hn5 : b5 = false := by revert hp; cases b5 <;> simp
              clear hp
              subst hn5
              refine inv_op (o := ⟨some 58, _, _, _, _, _⟩) rfl (fun K' hK' => ?_)
              go_simp
              obtain ⟨h0, h2, h4, h5, h6, h7, h11, o1, o3, o8, o9, o10, g1, g3, g8, g9, gB, g10, gs⟩ := HI.out
              exact hK'.out _ _ ⟨⟨b0, b1, b2, b3, b4, true, b6, b7, b8, b9, b10, b11, s53, s54, s55, s56, s57, _, s59, s60, s61, s62, s63, s9⟩, rfl, rfl, h0, h2, h4, (fun _ => rfl), h6, h7, h11, o1, o3, o8, o9, o10, g1, g3, g8, g9, gB, g10, gs⟩
            · have hn6 : b6 = false := by revert hp; cases b6 <;> simp
              have e4 : b4 = true := by revert hp; cases b4 <;> simp
              have e5 : b5 = true := by revert hp; cases b5 <;> simp
              clear hp
              obtain rfl := (HI.out.2.2.1) e4
              obtain rfl := (HI.out.2.2.2.1) e5
              subst hn6
              refine inv_op (o := ⟨some 59, _, _, _, _, _⟩) rfl (fun K' hK' => ?_)
              go_simp
              obtain ⟨h0, h2, h4, h5, h6, h7, h11, o1, o3, o8, o9, o10, g1, g3, g8, g9, gB, g10, gs⟩ := HI.out
              exact hK'.out _ _ ⟨⟨b0, b1, b2, b3, b4, b5, true, b7, b8, b9, b10, b11, s53, s54, s55, s56, _, _, _, s60, s61, s62, s63, s9⟩, rfl, rfl, h0, h2, h4, h5, (fun _ => rfl), h7, h11, o1, o3, o8, o9, o10, g1, g3, g8, g9, gB, g10, gs⟩
            · have hn7 : b7 = false := by revert hp; cases b7 <;> simp
              have e6 : b6 = true := by revert hp; cases b6 <;> simp
              clear hp
              obtain rfl := (HI.out.2.2.2.2.1) e6
              subst hn7
              refine inv_op (o := ⟨some 60, _, _, _, _, _⟩) rfl (fun K' hK' => ?_)
              have o3 := HI.out.2.2.2.2.2.2.2.2.1
              have o8 := HI.out.2.2.2.2.2.2.2.2.2.1
              have o9 := HI.out.2.2.2.2.2.2.2.2.2.2.1
              have gB := HI.out.2.2.2.2.2.2.2.2.2.2.2.2.2.2.2.2.1
              have b8f : b8 = false := by cases b8 with | false => rfl | true => exact absurd ((fun h => (o3 h).2) rfl) (by simp)
              subst b8f
              have b9f : b9 = false := by cases b9 with | false => rfl | true => exact absurd (o8 rfl) (by simp)
              subst b9f
              have b10f : b10 = false := by cases b10 with | false => rfl | true => exact absurd (o9 rfl) (by simp)
              subst b10f
              have hc := HCA.out W (gB rfl)
              go_simp
              obtain ⟨h0, h2, h4, h5, h6, h7, h11, o1, o3, o8, o9, o10, g1, g3, g8, g9, gB, g10, gs⟩ := HI.out
              exact hK'.out _ _ ⟨⟨b0, b1, b2, b3, b4, b5, b6, true, false, false, false, b11, s53, s54, s55, s56, s57, s58, _, _, s61, s62, s63, s9⟩, rfl, rfl, h0, h2, h4, h5, h6, (fun _ => rfl), h11, o1, (fun h => by cases h), (fun h => by cases h), (fun h => by cases h), o10, g1, g3, (fun h => by cases h), (fun h => by cases h), gB, (fun h => by cases h), gs⟩
            · have hn8 : b8 = false := by revert hp; cases b8 <;> simp
              have e3 : b3 = true := by revert hp; cases b3 <;> simp
              have e7 : b7 = true := by revert hp; cases b7 <;> simp
              clear hp
              obtain rfl := (HI.out.2.2.2.2.2.1) e7
              subst hn8
              refine inv_op (o := ⟨some 61, _, _, _, _, _⟩) rfl (fun K' hK' => ?_)
              have o8 := HI.out.2.2.2.2.2.2.2.2.2.1
              have o9 := HI.out.2.2.2.2.2.2.2.2.2.2.1
              have g3 := HI.out.2.2.2.2.2.2.2.2.2.2.2.2.2.1
              have gB := HI.out.2.2.2.2.2.2.2.2.2.2.2.2.2.2.2.2.1
              have b9f : b9 = false := by cases b9 with | false => rfl | true => exact absurd (o8 rfl) (by simp)
              subst b9f
              have b10f : b10 = false := by cases b10 with | false => rfl | true => exact absurd (o9 rfl) (by simp)
              subst b10f
              have gb := gB rfl
              have h1 := g3 e3 rfl
              obtain ⟨v2, w2, hr, hown, hgr⟩ := bytes_step h1 24 (.slice av NA cv) (Za i) (HIA.out W gb) (by rw [← HNA.out]; omega) gb.size
              have hsz := hgr.size
              have hst := gb.size
              have gb2 := gb.grown hgr hst (fun k hk => (h1.lt k hk).1)
              rw [if_pos (by kernel_rfl)]
              refine Lib.wp_append_run W (.tmp 56) (.tmp 60) 24 24 rfl _ _ rfl rfl v2 w2 hr ?_
              rw [← HNA.out] at hown
              obtain ⟨h0, h2, h4, h5, h6, h7, h11, o1, o3, o8, o9, o10, g1, g3, g8, g9, gB, g10, gs⟩ := HI.out
              exact hK'.out _ _ ⟨⟨b0, b1, b2, b3, b4, b5, b6, b7, true, false, false, b11, s53, s54, s55, s56, s57, s58, s59, _, _, s62, s63, s9⟩, rfl, rfl, h0, h2, h4, h5, h6, h7, h11, o1, (fun _ => ⟨e3, e7⟩), (fun h => by cases h), (fun h => by cases h), o10, (fun _ h => by rw [e3] at h; cases h), (fun _ h => by cases h), (fun _ => hown), (fun h => by cases h), (fun _ => gb2), (fun h => by cases h), gs⟩
            · have hn9 : b9 = false := by revert hp; cases b9 <;> simp
              have e8 : b8 = true := by revert hp; cases b8 <;> simp
              clear hp
              subst hn9
              refine inv_op (o := ⟨some 62, _, _, _, _, _⟩) rfl (fun K' hK' => ?_)
              have o9 := HI.out.2.2.2.2.2.2.2.2.2.2.1
              have g8 := HI.out.2.2.2.2.2.2.2.2.2.2.2.2.2.2.1
              have gB := HI.out.2.2.2.2.2.2.2.2.2.2.2.2.2.2.2.2.1
              have b10f : b10 = false := by cases b10 with | false => rfl | true => exact absurd (o9 rfl) (by simp)
              subst b10f
              have gb := gB rfl
              have h1 := g8 e8
              obtain ⟨x1, n1, c1, hx1⟩ : ∃ x1 n1 c1, s61 = .slice x1 n1 c1 := by rcases h1.2 with ⟨h, _⟩ | ⟨_, _, _, h, _⟩ <;> exact ⟨_, _, _, h⟩
              subst hx1
              go_simp
              have bn : Below W.heap.size W (W.alloc (.cells #[.slice x1 n1 c1] 24)) := (Below.refl _ _).alloc (Nat.le_refl _) _
              have hnw := heap_alloc_new W (.cells #[.slice x1 n1 c1] 24)
              obtain ⟨h0, h2, h4, h5, h6, h7, h11, o1, o3, o8, o9, o10, g1, g3, g8, g9, gB, g10, gs⟩ := HI.out
              exact hK'.out _ _ ⟨⟨b0, b1, b2, b3, b4, b5, b6, b7, b8, true, false, b11, s53, s54, s55, s56, s57, s58, s59, s60, _, _, s63, s9⟩, rfl, rfl, h0, h2, h4, h5, h6, h7, h11, o1, o3, (fun _ => e8), (fun h => by cases h), o10, (fun a1 a2 => ownsRow_below (g1 a1 a2) bn), (fun a1 a2 => ownsRow_below (g3 a1 a2) bn), (fun _ => ownsRow_below h1 bn), (fun _ _ => ⟨W.heap.size, rfl, hnw⟩), (fun _ => gb.trans (bn.mono gb.size)), (fun h => by cases h), gs⟩
            · have hn10 : b10 = false := by revert hp; cases b10 <;> simp
              have e0 : b0 = true := by revert hp; cases b0 <;> simp
              have e8 : b8 = true := by revert hp; cases b8 <;> simp
              have e9 : b9 = true := by revert hp; cases b9 <;> simp
              clear hp
              obtain rfl := (HI.out.1) e0
              subst hn10
              refine inv_op (o := ⟨some 63, _, _, _, _, _⟩) rfl (fun K' hK' => ?_)
              have o10 := HI.out.2.2.2.2.2.2.2.2.2.2.2.1
              have g8 := HI.out.2.2.2.2.2.2.2.2.2.2.2.2.2.2.1
              have g9 := HI.out.2.2.2.2.2.2.2.2.2.2.2.2.2.2.2.1
              have gB := HI.out.2.2.2.2.2.2.2.2.2.2.2.2.2.2.2.2.1
              have b11f : b11 = false := by cases b11 with | false => rfl | true => exact absurd ((fun h => (o10 h).2) rfl) (by simp)
              subst b11f
              have hn10b : (false : Bool) = false := rfl
              have gb := gB hn10b
              obtain ⟨g, hg1, hg2⟩ := g9 e9 hn10b
              subst hg1
              have h1 := ownsRow_below TX.out.1 gb
              obtain ⟨v2, w2, hr, hown, hgr, hwh⟩ := text_step h1 40 g s61 (one_of_owns (g8 e8)) hg2 (by omega) (by have h2 := gb.size; have h3 := HBW.out; omega)
              have hgr2 := grown_after gb hgr
              have hg8 := texts_keep8 h1 hgr (g8 e8)
              have hwh2 : v2.ownBlock = s53.ownBlock ∨ ∀ k, v2.ownBlock = some k → wr.heap.size ≤ k := hwh.imp id (fun h k hk => Nat.le_trans gb.size (h k hk))
              rw [if_pos (by kernel_rfl)]
              refine Lib.wp_append_run W (.tmp 53) (.tmp 62) 40 40 rfl _ _ rfl rfl v2 w2 hr ?_
              obtain ⟨h0, h2, h4, h5, h6, h7, h11, o1, o3, o8, o9, o10, g1, g3, g8, g9, gB, g10, gs⟩ := HI.out
              exact hK'.out _ _ ⟨⟨b0, b1, b2, b3, b4, b5, b6, b7, b8, b9, true, false, _, s54, s55, s56, s57, s58, s59, s60, s61, _, _, s9⟩, rfl, rfl, h0, h2, h4, h5, h6, h7, (fun h => by cases h), o1, o3, o8, (fun _ => e9), (fun h => by cases h), (fun _ h => by rw [(o3 (o8 e9)).1] at h; cases h), (fun _ h => by rw [e8] at h; cases h), (fun _ => hg8), (fun _ h => by cases h), (fun h => by cases h), (fun _ => ⟨hown, hgr2, hwh2⟩), gs⟩
            · have hn11 : b11 = false := by revert hp; cases b11 <;> simp
              have e0 : b0 = true := by revert hp; cases b0 <;> simp
              have e10 : b10 = true := by revert hp; cases b10 <;> simp
              clear hp
              subst hn11
              refine inv_op (o := ⟨some 9, _, _, _, _, _⟩) rfl (fun K' hK' => ?_)
              go_simp
              obtain ⟨h0, h2, h4, h5, h6, h7, h11, o1, o3, o8, o9, o10, g1, g3, g8, g9, gB, g10, gs⟩ := HI.out
              exact hK'.out _ _ ⟨⟨b0, b1, b2, b3, b4, b5, b6, b7, b8, b9, b10, true, s53, s54, s55, s56, s57, s58, s59, s60, s61, s62, s63, _⟩, rfl, rfl, h0, h2, h4, h5, h6, h7, (fun _ => rfl), o1, o3, o8, o9, (fun _ => ⟨e0, e10⟩), g1, g3, g8, g9, gB, g10, (fun h => by cases h)⟩
          case hdone =>
            rintro ⟨b0, b1, b2, b3, b4, b5, b6, b7, b8, b9, b10, b11, s53, s54, s55, s56, s57, s58, s59, s60, s61, s62, s63, s9⟩ W hI hall
            dsimp only at hI hall ⊢
            have HI := Lib.hid hI
            clear hI
            obtain rfl : b8 = true := hall 8 (by decide)
            obtain rfl : b10 = true := hall 10 (by decide)
            obtain rfl : b11 = true := hall 11 (by decide)
            obtain rfl := (HI.out.2.2.2.2.2.2.1) rfl
            have g8 := HI.out.2.2.2.2.2.2.2.2.2.2.2.2.2.2.1
            have g10 := HI.out.2.2.2.2.2.2.2.2.2.2.2.2.2.2.2.2.2.1
            clear HI hall
            obtain ⟨gown, ggr, gwh⟩ := g10 rfl
            have hbr1 := fun k (hk : u9.ownBlock = some k) => (TX.out.block hk).elim fun cur h => h.2
            have hxl : (chX C Za i).length = 32 + NA := by
              show (chF C Za i ++ Za i).length = _
              rw [List.length_append, ← HPE.out, HPL.out, HNA.out]
            have hxe : chX C Za i = PL ++ Za i := by rw [HPE.out]; rfl
            have tx1 := TX.out.step ggr gown (by rw [hxl, hxe]; exact g8 rfl) HBW.out
            have ty1 := TY.out.other TX.out ggr NE.out
            have hp1 := (ggr.block bp (Array.getElem?_eq_some_iff.1 HP.out).1 (TX.out.ne HP.out (by decide))).trans HP.out
            have hq1 := (ggr.block bq (Array.getElem?_eq_some_iff.1 HQ.out).1 (TX.out.ne HQ.out (by decide))).trans HQ.out
            have ne1 : ∀ k, s9.ownBlock = some k → u10.ownBlock ≠ some k := fun k hk h10 => by
              rcases gwh with h | h
              · exact NE.out k (by rw [← h]; exact hk) h10
              · obtain ⟨cur, hc, _⟩ := TY.out.block h10
                have h1 := (Array.getElem?_eq_some_iff.1 hc).1
                have h2 := h k hk
                omega
            have bw1 := BW.out.grown ggr HBW.out hbr1
            clear g8 g10 gown ggr gwh hbr1 hxl hxe TX TY NE HP HQ HCA HCB HIA HIB HPA HQA
            have TX := Lib.hid tx1
            have TY := Lib.hid ty1
            have NE := Lib.hid ne1
            have HP := Lib.hid hp1
            have HQ := Lib.hid hq1
            have BW1 := Lib.hid bw1
            have HBW1 := Lib.hid (show B ≤ W.heap.size by have := bw1.size; have := HBB.out; omega)
            clear tx1 ty1 ne1 hp1 hq1 bw1
            clear HBW
            have HBW := HBW1
            obtain ⟨wr1, hwr1⟩ : ∃ x, x = W := ⟨_, rfl⟩
            subst hwr1
            have hup : ∀ W, Below wr1.heap.size wr1 W → Below B w W := fun W h => BW1.out.trans (h.mono HBW1.out)
            have HCB := Lib.hid (show ∀ W, Below wr1.heap.size wr1 W → W.cell? (bd.add i) = some (.slice bv NB dv) from fun W h => (HGB.out W (hup W h)).1)
            have HIB := Lib.hid (show ∀ W, Below wr1.heap.size wr1 W → (((.slice bv NB dv : Value) = .slice none 0 0 ∧ Zb i = []) ∨ ∃ ad c, (.slice bv NB dv : Value) = .slice (some ad) (Zb i).length c ∧ ∀ j u, (byteCells (Zb i))[j]? = some u → W.cell? (ad.add j) = some u) from fun W h => (HGB.out W (hup W h)).2.2)
            have HQA := Lib.hid (show ∀ W, Below wr1.heap.size wr1 W → (((.slice (some ⟨bq, 0, none⟩) 32 32 : Value) = .slice none 0 0 ∧ QL = []) ∨ ∃ ad c, (.slice (some ⟨bq, 0, none⟩) 32 32 : Value) = .slice (some ad) QL.length c ∧ ∀ j u, (byteCells QL)[j]? = some u → W.cell? (ad.add j) = some u) from fun W h => ((isArg_of_row HQ.out HQL.out (by decide)).below h).2)
            clear hup
            go_wp2_with fail
            refine wp_region_rec (X := ChainC) (by kernel_rfl) (by kernel_rfl) (fun x => #[x.b0, x.b1, x.b2, x.b3, x.b4, x.b5, x.b6, x.b7, x.b8, x.b9, x.b10, x.b11]) (fun x => { tmps := List.toArray ((.slice (some ad) na ca) :: (.slice (some bd) nb cb) :: (.agg CV) :: (.agg DV) :: undef :: undef :: (.pointer (some ⟨B, 0, none⟩)) :: (.pointer (some ⟨B + 1, 0, none⟩)) :: u8 :: s9 :: x.s10 :: (.pointer (some ⟨bp, 0, none⟩)) :: (.pointer (some ⟨bq, 0, none⟩)) :: (.bool SM) :: (.int .i64 i) :: undef :: (.slice (some ad) na ca) :: (.int .i64 na) :: u18 :: u18 :: (.slice (some bd) nb cb) :: (.int .i64 nb) :: (.slice (some ad) na ca) :: (.int .i64 na) :: u24 :: u25 :: undef :: s27 :: s28 :: s29 :: s30 :: s31 :: (.int .i64 i) :: (.slice (some ad) na ca) :: (.int .i64 na) :: (.bool true) :: u36 :: u37 :: (.slice (some ad) na ca) :: (.int .i64 i) :: (.pointer (some (ad.add i))) :: (.slice av NA cv) :: (.int .i64 NA) :: u43 :: u43 :: (.slice (some bd) nb cb) :: (.int .i64 i) :: (.pointer (some (bd.add i))) :: (.slice bv NB dv) :: (.int .i64 NB) :: u50 :: u51 :: u52 :: s53 :: s54 :: s55 :: s56 :: s57 :: s58 :: s59 :: s60 :: s61 :: s62 :: s9 :: x.s64 :: x.s65 :: x.s66 :: x.s67 :: x.s68 :: x.s69 :: x.s70 :: x.s71 :: x.s72 :: x.s73 :: x.s74 :: u75 :: u76 :: u77 :: u78 :: u79 :: u80 :: u81 :: u82 :: u83 :: u84 :: u85 :: u86 :: u87 :: u88 :: u89 :: u90 :: u91 :: u92 :: u93 :: u94 :: u95 :: u96 :: u97 :: u98 :: undef :: undef :: undef :: undef :: undef :: undef :: undef :: undef :: undef :: undef :: undef :: undef :: undef :: undef :: undef :: undef :: undef :: undef :: undef :: undef :: undef :: undef :: undef :: undef :: undef :: undef :: undef :: undef :: undef :: undef :: undef :: undef :: undef :: undef :: undef :: undef :: undef :: undef :: undef :: undef :: undef :: undef :: undef :: undef :: undef :: undef :: undef :: undef :: undef :: undef :: undef :: undef :: []), defers := [] }) (fun x W => (x.b0 = true → x.s64 = u10) ∧ (x.b2 = true → x.s66 = .slice (some ⟨bq, 0, none⟩) 32 32) ∧ (x.b4 = true → x.s68 = .slice (some bd) nb cb) ∧ (x.b5 = true → x.s69 = .int .i64 i) ∧ (x.b6 = true → x.s70 = .pointer (some (bd.add i))) ∧ (x.b7 = true → x.s71 = .slice bv NB dv) ∧ (x.b11 = true → x.s10 = x.s74) ∧ (x.b3 = true → x.b1 = true) ∧ (x.b8 = true → x.b3 = true ∧ x.b7 = true) ∧ (x.b9 = true → x.b8 = true) ∧ (x.b10 = true → x.b9 = true) ∧ (x.b11 = true → x.b0 = true ∧ x.b10 = true) ∧ (x.b1 = true → x.b3 = false → W.ownsRow wr1.heap.size 5 1 x.s65 0 (byteCells [])) ∧ (x.b3 = true → x.b8 = false → W.ownsRow wr1.heap.size 5 1 x.s67 32 (byteCells QL)) ∧ (x.b8 = true → W.ownsRow wr1.heap.size 5 1 x.s72 (32 + NB) (byteCells (QL ++ Zb i))) ∧ (x.b9 = true → x.b10 = false → ∃ g, x.s73 = .slice (some ⟨g, 0, none⟩) 1 1 ∧ W.heap[g]? = some (.cells #[x.s72] 24 (0, 0))) ∧ (x.b10 = false → Below wr1.heap.size wr1 W) ∧ (x.b10 = true → W.ownsRow B 24 1 x.s74 (i + 1) (ys ++ [x.s72]) ∧ wr1.grownBy W u10.ownBlock ∧ (x.s74.ownBlock = u10.ownBlock ∨ ∀ k, x.s74.ownBlock = some k → wr1.heap.size ≤ k)) ∧ (x.b11 = false → x.s10 = u10)) ⟨false, false, false, false, false, false, false, false, false, false, false, false, u64, u65, u66, u67, u68, u69, u70, u71, u72, u73, u74, u10⟩ rfl rfl ⟨(fun h => by cases h), (fun h => by cases h), (fun h => by cases h), (fun h => by cases h), (fun h => by cases h), (fun h => by cases h), (fun h => by cases h), (fun h => by cases h), (fun h => by cases h), (fun h => by cases h), (fun h => by cases h), (fun h => by cases h), (fun h => by cases h), (fun h => by cases h), (fun h => by cases h), (fun h => by cases h), (fun _ => (Below.refl _ _).drew), (fun h => by cases h), (fun _ => rfl)⟩ (fun _ => rfl) ?hstep ?hdone
            case hstep =>
              rintro ⟨b0, b1, b2, b3, b4, b5, b6, b7, b8, b9, b10, b11, s64, s65, s66, s67, s68, s69, s70, s71, s72, s73, s74, s10⟩ W hI i hi
              dsimp only at hI hi ⊢
              have HI := Lib.hid hI
              clear hI
              rw [Region.ready, List.mem_filter, List.mem_range] at hi
              obtain ⟨hlt, hp⟩ := hi
              have hi7 : i = 0 ∨ i = 1 ∨ i = 2 ∨ i = 3 ∨ i = 4 ∨ i = 5 ∨ i = 6 ∨ i = 7 ∨ i = 8 ∨ i = 9 ∨ i = 10 ∨ i = 11 := by simp at hlt; omega
              clear hlt
              rcases hi7 with rfl | rfl | rfl | rfl | rfl | rfl | rfl | rfl | rfl | rfl | rfl | rfl
              all_goals simp [Region.binds] at hp
              · have hn0 : b0 = false := by revert hp; cases b0 <;> simp
                clear hp
                subst hn0
                refine inv_op (o := ⟨some 64, _, _, _, _, _⟩) rfl (fun K' hK' => ?_)
                have o10 := HI.out.2.2.2.2.2.2.2.2.2.2.2.1
                have gs := HI.out.2.2.2.2.2.2.2.2.2.2.2.2.2.2.2.2.2.2
                have b11f : b11 = false := by cases b11 with | false => rfl | true => exact absurd ((fun h => (o10 h).1) rfl) (by simp)
                subst b11f
                obtain rfl := gs rfl
                go_simp
                obtain ⟨h0, h2, h4, h5, h6, h7, h11, o1, o3, o8, o9, o10, g1, g3, g8, g9, gB, g10, gs⟩ := HI.out
                exact hK'.out _ _ ⟨⟨true, b1, b2, b3, b4, b5, b6, b7, b8, b9, b10, false, _, s65, s66, s67, s68, s69, s70, s71, s72, s73, s74, _⟩, rfl, rfl, (fun _ => rfl), h2, h4, h5, h6, h7, h11, o1, o3, o8, o9, (fun h => by cases h), g1, g3, g8, g9, gB, g10, gs⟩
              · have hn1 : b1 = false := by revert hp; cases b1 <;> simp
                clear hp
                subst hn1
                refine inv_op (o := ⟨some 65, _, _, _, _, _⟩) rfl (fun K' hK' => ?_)
                have o1 := HI.out.2.2.2.2.2.2.2.1
                have o3 := HI.out.2.2.2.2.2.2.2.2.1
                have o8 := HI.out.2.2.2.2.2.2.2.2.2.1
                have o9 := HI.out.2.2.2.2.2.2.2.2.2.2.1
                have gB := HI.out.2.2.2.2.2.2.2.2.2.2.2.2.2.2.2.2.1
                have b3f : b3 = false := by cases b3 with | false => rfl | true => exact absurd (o1 rfl) (by simp)
                subst b3f
                have b8f : b8 = false := by cases b8 with | false => rfl | true => exact absurd ((fun h => (o3 h).1) rfl) (by simp)
                subst b8f
                have b9f : b9 = false := by cases b9 with | false => rfl | true => exact absurd (o8 rfl) (by simp)
                subst b9f
                have b10f : b10 = false := by cases b10 with | false => rfl | true => exact absurd (o9 rfl) (by simp)
                subst b10f
                have gb := gB rfl
                go_simp
                have bn : Below W.heap.size W (W.alloc (.cells #[] 5)) := (Below.refl _ _).alloc (Nat.le_refl _) _
                obtain ⟨h0, h2, h4, h5, h6, h7, h11, o1, o3, o8, o9, o10, g1, g3, g8, g9, gB, g10, gs⟩ := HI.out
                exact hK'.out _ _ ⟨⟨b0, true, b2, false, b4, b5, b6, b7, false, false, false, b11, s64, _, s66, s67, s68, s69, s70, s71, s72, s73, s74, s10⟩, rfl, rfl, h0, h2, h4, h5, h6, h7, h11, (fun h => by cases h), (fun h => by cases h), (fun h => by cases h), (fun h => by cases h), o10, (fun _ _ => World.ownsRow_made W #[] 0 gb.size (by decide) rfl), (fun h => by cases h), (fun h => by cases h), (fun h => by cases h), (fun _ => gb.trans (bn.mono gb.size)), (fun h => by cases h), gs⟩
              · have hn2 : b2 = false := by revert hp; cases b2 <;> simp
                clear hp
                subst hn2
                refine inv_op (o := ⟨some 66, _, _, _, _, _⟩) rfl (fun K' hK' => ?_)
                have hall := digest_all ⟨bq, 0, none⟩ W
                go_simp
                obtain ⟨h0, h2, h4, h5, h6, h7, h11, o1, o3, o8, o9, o10, g1, g3, g8, g9, gB, g10, gs⟩ := HI.out
                exact hK'.out _ _ ⟨⟨b0, b1, true, b3, b4, b5, b6, b7, b8, b9, b10, b11, s64, s65, _, s67, s68, s69, s70, s71, s72, s73, s74, s10⟩, rfl, rfl, h0, (fun _ => rfl), h4, h5, h6, h7, h11, o1, o3, o8, o9, o10, g1, g3, g8, g9, gB, g10, gs⟩
              · have hn3 : b3 = false := by revert hp; cases b3 <;> simp
                have e1 : b1 = true := by revert hp; cases b1 <;> simp
                have e2 : b2 = true := by revert hp; cases b2 <;> simp
                clear hp
                obtain rfl := (HI.out.2.1) e2
                subst hn3
                refine inv_op (o := ⟨some 67, _, _, _, _, _⟩) rfl (fun K' hK' => ?_)
                have o3 := HI.out.2.2.2.2.2.2.2.2.1
                have o8 := HI.out.2.2.2.2.2.2.2.2.2.1
                have o9 := HI.out.2.2.2.2.2.2.2.2.2.2.1
                have g1 := HI.out.2.2.2.2.2.2.2.2.2.2.2.2.1
                have gB := HI.out.2.2.2.2.2.2.2.2.2.2.2.2.2.2.2.2.1
                have b8f : b8 = false := by cases b8 with | false => rfl | true => exact absurd ((fun h => (o3 h).1) rfl) (by simp)
                subst b8f
                have b9f : b9 = false := by cases b9 with | false => rfl | true => exact absurd (o8 rfl) (by simp)
                subst b9f
                have b10f : b10 = false := by cases b10 with | false => rfl | true => exact absurd (o9 rfl) (by simp)
                subst b10f
                have gb := gB rfl
                have h1 := g1 e1 rfl
                obtain ⟨v2, w2, hr, hown, hgr⟩ := bytes_step h1 24 (.slice (some ⟨bq, 0, none⟩) 32 32) QL (HQA.out W gb) (by rw [HQL.out]; decide) gb.size
                have hsz := hgr.size
                have hst := gb.size
                have gb2 := gb.grown hgr hst (fun k hk => (h1.lt k hk).1)
                rw [if_pos (by kernel_rfl)]
                refine Lib.wp_append_run W (.tmp 65) (.tmp 66) 24 24 rfl _ _ rfl rfl v2 w2 hr ?_
                rw [HQL.out] at hown
                obtain ⟨h0, h2, h4, h5, h6, h7, h11, o1, o3, o8, o9, o10, g1, g3, g8, g9, gB, g10, gs⟩ := HI.out
                exact hK'.out _ _ ⟨⟨b0, b1, b2, true, b4, b5, b6, b7, false, false, false, b11, s64, s65, _, _, s68, s69, s70, s71, s72, s73, s74, s10⟩, rfl, rfl, h0, h2, h4, h5, h6, h7, h11, (fun _ => e1), (fun h => by cases h), (fun h => by cases h), (fun h => by cases h), o10, (fun _ h => by cases h), (fun _ _ => by simpa using hown), (fun h => by cases h), (fun h => by cases h), (fun _ => gb2), (fun h => by cases h), gs⟩
              · have hn4 : b4 = false := by revert hp; cases b4 <;> simp
                clear hp
                subst hn4
                refine inv_op (o := ⟨some 68, _, _, _, _, _⟩) rfl (fun K' hK' => ?_)
                go_simp
                obtain ⟨h0, h2, h4, h5, h6, h7, h11, o1, o3, o8, o9, o10, g1, g3, g8, g9, gB, g10, gs⟩ := HI.out
                exact hK'.out _ _ ⟨⟨b0, b1, b2, b3, true, b5, b6, b7, b8, b9, b10, b11, s64, s65, s66, s67, _, s69, s70, s71, s72, s73, s74, s10⟩, rfl, rfl, h0, h2, (fun _ => rfl), h5, h6, h7, h11, o1, o3, o8, o9, o10, g1, g3, g8, g9, gB, g10, gs⟩
              · have hn5 : b5 = false := by revert hp; cases b5 <;> simp
                clear hp
                subst hn5
                refine inv_op (o := ⟨some 69, _, _, _, _, _⟩) rfl (fun K' hK' => ?_)
                go_simp
                obtain ⟨h0, h2, h4, h5, h6, h7, h11, o1, o3, o8, o9, o10, g1, g3, g8, g9, gB, g10, gs⟩ := HI.out
                exact hK'.out _ _ ⟨⟨b0, b1, b2, b3, b4, true, b6, b7, b8, b9, b10, b11, s64, s65, s66, s67, s68, _, s70, s71, s72, s73, s74, s10⟩, rfl, rfl, h0, h2, h4, (fun _ => rfl), h6, h7, h11, o1, o3, o8, o9, o10, g1, g3, g8, g9, gB, g10, gs⟩
              · have hn6 : b6 = false := by revert hp; cases b6 <;> simp
                have e4 : b4 = true := by revert hp; cases b4 <;> simp
                have e5 : b5 = true := by revert hp; cases b5 <;> simp
                clear hp
                obtain rfl := (HI.out.2.2.1) e4
                obtain rfl := (HI.out.2.2.2.1) e5
                subst hn6
                refine inv_op (o := ⟨some 70, _, _, _, _, _⟩) rfl (fun K' hK' => ?_)
                go_simp
                obtain ⟨h0, h2, h4, h5, h6, h7, h11, o1, o3, o8, o9, o10, g1, g3, g8, g9, gB, g10, gs⟩ := HI.out
                exact hK'.out _ _ ⟨⟨b0, b1, b2, b3, b4, b5, true, b7, b8, b9, b10, b11, s64, s65, s66, s67, _, _, _, s71, s72, s73, s74, s10⟩, rfl, rfl, h0, h2, h4, h5, (fun _ => rfl), h7, h11, o1, o3, o8, o9, o10, g1, g3, g8, g9, gB, g10, gs⟩
              · have hn7 : b7 = false := by revert hp; cases b7 <;> simp
                have e6 : b6 = true := by revert hp; cases b6 <;> simp
                clear hp
                obtain rfl := (HI.out.2.2.2.2.1) e6
                subst hn7
                refine inv_op (o := ⟨some 71, _, _, _, _, _⟩) rfl (fun K' hK' => ?_)
                have o3 := HI.out.2.2.2.2.2.2.2.2.1
                have o8 := HI.out.2.2.2.2.2.2.2.2.2.1
                have o9 := HI.out.2.2.2.2.2.2.2.2.2.2.1
                have gB := HI.out.2.2.2.2.2.2.2.2.2.2.2.2.2.2.2.2.1
                have b8f : b8 = false := by cases b8 with | false => rfl | true => exact absurd ((fun h => (o3 h).2) rfl) (by simp)
                subst b8f
                have b9f : b9 = false := by cases b9 with | false => rfl | true => exact absurd (o8 rfl) (by simp)
                subst b9f
                have b10f : b10 = false := by cases b10 with | false => rfl | true => exact absurd (o9 rfl) (by simp)
                subst b10f
                have hc := HCB.out W (gB rfl)
                go_simp
                obtain ⟨h0, h2, h4, h5, h6, h7, h11, o1, o3, o8, o9, o10, g1, g3, g8, g9, gB, g10, gs⟩ := HI.out
                exact hK'.out _ _ ⟨⟨b0, b1, b2, b3, b4, b5, b6, true, false, false, false, b11, s64, s65, s66, s67, s68, s69, _, _, s72, s73, s74, s10⟩, rfl, rfl, h0, h2, h4, h5, h6, (fun _ => rfl), h11, o1, (fun h => by cases h), (fun h => by cases h), (fun h => by cases h), o10, g1, g3, (fun h => by cases h), (fun h => by cases h), gB, (fun h => by cases h), gs⟩
              · have hn8 : b8 = false := by revert hp; cases b8 <;> simp
                have e3 : b3 = true := by revert hp; cases b3 <;> simp
                have e7 : b7 = true := by revert hp; cases b7 <;> simp
                clear hp
                obtain rfl := (HI.out.2.2.2.2.2.1) e7
                subst hn8
                refine inv_op (o := ⟨some 72, _, _, _, _, _⟩) rfl (fun K' hK' => ?_)
                have o8 := HI.out.2.2.2.2.2.2.2.2.2.1
                have o9 := HI.out.2.2.2.2.2.2.2.2.2.2.1
                have g3 := HI.out.2.2.2.2.2.2.2.2.2.2.2.2.2.1
                have gB := HI.out.2.2.2.2.2.2.2.2.2.2.2.2.2.2.2.2.1
                have b9f : b9 = false := by cases b9 with | false => rfl | true => exact absurd (o8 rfl) (by simp)
                subst b9f
                have b10f : b10 = false := by cases b10 with | false => rfl | true => exact absurd (o9 rfl) (by simp)
                subst b10f
                have gb := gB rfl
                have h1 := g3 e3 rfl
                obtain ⟨v2, w2, hr, hown, hgr⟩ := bytes_step h1 24 (.slice bv NB dv) (Zb i) (HIB.out W gb) (by rw [← HNB.out]; omega) gb.size
                have hsz := hgr.size
                have hst := gb.size
                have gb2 := gb.grown hgr hst (fun k hk => (h1.lt k hk).1)
                rw [if_pos (by kernel_rfl)]
                refine Lib.wp_append_run W (.tmp 67) (.tmp 71) 24 24 rfl _ _ rfl rfl v2 w2 hr ?_
                rw [← HNB.out] at hown
                obtain ⟨h0, h2, h4, h5, h6, h7, h11, o1, o3, o8, o9, o10, g1, g3, g8, g9, gB, g10, gs⟩ := HI.out
                exact hK'.out _ _ ⟨⟨b0, b1, b2, b3, b4, b5, b6, b7, true, false, false, b11, s64, s65, s66, s67, s68, s69, s70, _, _, s73, s74, s10⟩, rfl, rfl, h0, h2, h4, h5, h6, h7, h11, o1, (fun _ => ⟨e3, e7⟩), (fun h => by cases h), (fun h => by cases h), o10, (fun _ h => by rw [e3] at h; cases h), (fun _ h => by cases h), (fun _ => hown), (fun h => by cases h), (fun _ => gb2), (fun h => by cases h), gs⟩
              · have hn9 : b9 = false := by revert hp; cases b9 <;> simp
                have e8 : b8 = true := by revert hp; cases b8 <;> simp
                clear hp
                subst hn9
                refine inv_op (o := ⟨some 73, _, _, _, _, _⟩) rfl (fun K' hK' => ?_)
                have o9 := HI.out.2.2.2.2.2.2.2.2.2.2.1
                have g8 := HI.out.2.2.2.2.2.2.2.2.2.2.2.2.2.2.1
                have gB := HI.out.2.2.2.2.2.2.2.2.2.2.2.2.2.2.2.2.1
                have b10f : b10 = false := by cases b10 with | false => rfl | true => exact absurd (o9 rfl) (by simp)
                subst b10f
                have gb := gB rfl
                have h1 := g8 e8
                obtain ⟨x1, n1, c1, hx1⟩ : ∃ x1 n1 c1, s72 = .slice x1 n1 c1 := by rcases h1.2 with ⟨h, _⟩ | ⟨_, _, _, h, _⟩ <;> exact ⟨_, _, _, h⟩
                subst hx1
                go_simp
                have bn : Below W.heap.size W (W.alloc (.cells #[.slice x1 n1 c1] 24)) := (Below.refl _ _).alloc (Nat.le_refl _) _
                have hnw := heap_alloc_new W (.cells #[.slice x1 n1 c1] 24)
                obtain ⟨h0, h2, h4, h5, h6, h7, h11, o1, o3, o8, o9, o10, g1, g3, g8, g9, gB, g10, gs⟩ := HI.out
                exact hK'.out _ _ ⟨⟨b0, b1, b2, b3, b4, b5, b6, b7, b8, true, false, b11, s64, s65, s66, s67, s68, s69, s70, s71, _, _, s74, s10⟩, rfl, rfl, h0, h2, h4, h5, h6, h7, h11, o1, o3, (fun _ => e8), (fun h => by cases h), o10, (fun a1 a2 => ownsRow_below (g1 a1 a2) bn), (fun a1 a2 => ownsRow_below (g3 a1 a2) bn), (fun _ => ownsRow_below h1 bn), (fun _ _ => ⟨W.heap.size, rfl, hnw⟩), (fun _ => gb.trans (bn.mono gb.size)), (fun h => by cases h), gs⟩
              · have hn10 : b10 = false := by revert hp; cases b10 <;> simp
                have e0 : b0 = true := by revert hp; cases b0 <;> simp
                have e8 : b8 = true := by revert hp; cases b8 <;> simp
                have e9 : b9 = true := by revert hp; cases b9 <;> simp
                clear hp
                obtain rfl := (HI.out.1) e0
                subst hn10
                refine inv_op (o := ⟨some 74, _, _, _, _, _⟩) rfl (fun K' hK' => ?_)
                have o10 := HI.out.2.2.2.2.2.2.2.2.2.2.2.1
                have g8 := HI.out.2.2.2.2.2.2.2.2.2.2.2.2.2.2.1
                have g9 := HI.out.2.2.2.2.2.2.2.2.2.2.2.2.2.2.2.1
                have gB := HI.out.2.2.2.2.2.2.2.2.2.2.2.2.2.2.2.2.1
                have b11f : b11 = false := by cases b11 with | false => rfl | true => exact absurd ((fun h => (o10 h).2) rfl) (by simp)
                subst b11f
                have hn10b : (false : Bool) = false := rfl
                have gb := gB hn10b
                obtain ⟨g, hg1, hg2⟩ := g9 e9 hn10b
                subst hg1
                have h1 := ownsRow_below TY.out.1 gb
                obtain ⟨v2, w2, hr, hown, hgr, hwh⟩ := text_step h1 40 g s72 (one_of_owns (g8 e8)) hg2 (by omega) (by have h2 := gb.size; have h3 := HBW.out; omega)
                have hgr2 := grown_after gb hgr
                have hg8 := texts_keep8 h1 hgr (g8 e8)
                have hwh2 : v2.ownBlock = s64.ownBlock ∨ ∀ k, v2.ownBlock = some k → wr1.heap.size ≤ k := hwh.imp id (fun h k hk => Nat.le_trans gb.size (h k hk))
                rw [if_pos (by kernel_rfl)]
                refine Lib.wp_append_run W (.tmp 64) (.tmp 73) 40 40 rfl _ _ rfl rfl v2 w2 hr ?_
                obtain ⟨h0, h2, h4, h5, h6, h7, h11, o1, o3, o8, o9, o10, g1, g3, g8, g9, gB, g10, gs⟩ := HI.out
                exact hK'.out _ _ ⟨⟨b0, b1, b2, b3, b4, b5, b6, b7, b8, b9, true, false, _, s65, s66, s67, s68, s69, s70, s71, s72, _, _, s10⟩, rfl, rfl, h0, h2, h4, h5, h6, h7, (fun h => by cases h), o1, o3, o8, (fun _ => e9), (fun h => by cases h), (fun _ h => by rw [(o3 (o8 e9)).1] at h; cases h), (fun _ h => by rw [e8] at h; cases h), (fun _ => hg8), (fun _ h => by cases h), (fun h => by cases h), (fun _ => ⟨hown, hgr2, hwh2⟩), gs⟩
              · have hn11 : b11 = false := by revert hp; cases b11 <;> simp
                have e0 : b0 = true := by revert hp; cases b0 <;> simp
                have e10 : b10 = true := by revert hp; cases b10 <;> simp
                clear hp
                subst hn11
                refine inv_op (o := ⟨some 10, _, _, _, _, _⟩) rfl (fun K' hK' => ?_)
                go_simp
                obtain ⟨h0, h2, h4, h5, h6, h7, h11, o1, o3, o8, o9, o10, g1, g3, g8, g9, gB, g10, gs⟩ := HI.out
                exact hK'.out _ _ ⟨⟨b0, b1, b2, b3, b4, b5, b6, b7, b8, b9, b10, true, s64, s65, s66, s67, s68, s69, s70, s71, s72, s73, s74, _⟩, rfl, rfl, h0, h2, h4, h5, h6, h7, (fun _ => rfl), o1, o3, o8, o9, (fun _ => ⟨e0, e10⟩), g1, g3, g8, g9, gB, g10, (fun h => by cases h)⟩
            case hdone =>
              rintro ⟨b0, b1, b2, b3, b4, b5, b6, b7, b8, b9, b10, b11, s64, s65, s66, s67, s68, s69, s70, s71, s72, s73, s74, s10⟩ W hI hall
              dsimp only at hI hall ⊢
              have HI := Lib.hid hI
              clear hI
              obtain rfl : b8 = true := hall 8 (by decide)
              obtain rfl : b10 = true := hall 10 (by decide)
              obtain rfl : b11 = true := hall 11 (by decide)
              obtain rfl := (HI.out.2.2.2.2.2.2.1) rfl
              have g8 := HI.out.2.2.2.2.2.2.2.2.2.2.2.2.2.2.1
              have g10 := HI.out.2.2.2.2.2.2.2.2.2.2.2.2.2.2.2.2.2.1
              clear HI hall
              obtain ⟨gown, ggr, gwh⟩ := g10 rfl
              have hbr1 := fun k (hk : u10.ownBlock = some k) => (TY.out.block hk).elim fun cur h => h.2
              have hxl : (chX D Zb i).length = 32 + NB := by
                show (chF D Zb i ++ Zb i).length = _
                rw [List.length_append, ← HQE.out, HQL.out, HNB.out]
              have hxe : chX D Zb i = QL ++ Zb i := by rw [HQE.out]; rfl
              have ty1 := TY.out.step ggr gown (by rw [hxl, hxe]; exact g8 rfl) HBW.out
              have tx1 := TX.out.other TY.out ggr (fun k hk h9 => NE.out k h9 hk)
              have hp1 := (ggr.block bp (Array.getElem?_eq_some_iff.1 HP.out).1 (TY.out.ne HP.out (by decide))).trans HP.out
              have hq1 := (ggr.block bq (Array.getElem?_eq_some_iff.1 HQ.out).1 (TY.out.ne HQ.out (by decide))).trans HQ.out
              have ne1 : ∀ k, s9.ownBlock = some k → s10.ownBlock ≠ some k := fun k h9 hk => by
                rcases gwh with h | h
                · exact NE.out k h9 (by rw [← h]; exact hk)
                · obtain ⟨cur, hc, _⟩ := TX.out.block h9
                  have h1 := (Array.getElem?_eq_some_iff.1 hc).1
                  have h2 := h k hk
                  omega
              have bw1 := BW1.out.grown ggr HBW.out hbr1
              clear g8 g10 gown ggr gwh hbr1 hxl hxe TX TY NE HP HQ HCB HIB HQA
              obtain ⟨XS, hXS⟩ : ∃ x, x = xs ++ [s61] := ⟨_, rfl⟩
              obtain ⟨YS, hYS⟩ : ∃ x, x = ys ++ [s72] := ⟨_, rfl⟩
              rw [← hXS] at tx1
              rw [← hYS] at ty1
              obtain ⟨PV, hPV⟩ : ∃ x, x = (byteCells PL).toArray := ⟨_, rfl⟩
              obtain ⟨QV, hQV⟩ : ∃ x, x = (byteCells QL).toArray := ⟨_, rfl⟩
              obtain ⟨P1, hP1⟩ : ∃ x, x = (byteCells (shaOf (PL ++ Za i))).toArray := ⟨_, rfl⟩
              obtain ⟨Q1, hQ1⟩ : ∃ x, x = (byteCells (shaOf (QL ++ Zb i))).toArray := ⟨_, rfl⟩
              rw [← hPV] at hp1
              rw [← hQV] at hq1
              have HPZ := Lib.hid (show (some 32 : Option Nat) = some PV.size ∧ PV.size = 32 from ⟨by rw [hPV]; simp [byteCells, HPL.out], by rw [hPV]; simp [byteCells, HPL.out]⟩)
              have HQZ := Lib.hid (show (some 32 : Option Nat) = some QV.size ∧ QV.size = 32 from ⟨by rw [hQV]; simp [byteCells, HQL.out], by rw [hQV]; simp [byteCells, HQL.out]⟩)
              have HP1Z := Lib.hid (show (some 32 : Option Nat) = some P1.size ∧ 32 = P1.size ∧ P1.all (·.oneCell') = true from ⟨by rw [hP1]; simp [byteCells, shaOf_length], by rw [hP1]; simp [byteCells, shaOf_length], by rw [hP1]; exact all_oneCell_toArray (byteCells_one _)⟩)
              have HQ1Z := Lib.hid (show (some 32 : Option Nat) = some Q1.size ∧ 32 = Q1.size ∧ Q1.all (·.oneCell') = true from ⟨by rw [hQ1]; simp [byteCells, shaOf_length], by rw [hQ1]; simp [byteCells, shaOf_length], by rw [hQ1]; exact all_oneCell_toArray (byteCells_one _)⟩)
              have HLP := Lib.hid (show ∀ W, Below B w W → Calls Tryd.prog 17 #[.agg PV, .slice av NA cv] W fun e w' => e = .returned (.agg P1) ∧ Below W.heap.size W w' from fun W h => by
                rw [hPV, hP1]; exact link_any PL HPL.out _ (Za i) (by rw [← HNA.out]; omega) W (HGA.out W h).2 (HL.out W h))
              have HLQ := Lib.hid (show ∀ W, Below B w W → Calls Tryd.prog 17 #[.agg QV, .slice bv NB dv] W fun e w' => e = .returned (.agg Q1) ∧ Below W.heap.size W w' from fun W h => by
                rw [hQV, hQ1]; exact link_any QL HQL.out _ (Zb i) (by rw [← HNB.out]; omega) W (HGB.out W h).2 (HL.out W h))
              have HNEQ := Lib.hid hpq
              have HBP := Lib.hid (show B ≤ bp ∧ B ≤ bq from ⟨by omega, by omega⟩)
              have TX := Lib.hid tx1
              have TY := Lib.hid ty1
              have NE := Lib.hid ne1
              have HP := Lib.hid hp1
              have HQ := Lib.hid hq1
              have HBWW := Lib.hid bw1
              have HP1E := Lib.hid hP1
              have HQ1E := Lib.hid hQ1
              clear tx1 ty1 ne1 hp1 hq1 bw1 hXS hYS hPV hQV hP1 hQ1 BW BW1 HBW HBW1
              obtain ⟨wr2, hwr2⟩ : ∃ x, x = W := ⟨_, rfl⟩
              subst hwr2
              go_wp2_with fail
              refine wp_region_rec (X := ChainD) (by kernel_rfl) (by kernel_rfl) (fun x => #[x.b0, x.b1, x.b2, x.b3, x.b4, x.b5, x.b6, x.b7, x.b8, x.b9, x.b10, x.b11, x.b12, x.b13]) (fun x => { tmps := List.toArray ((.slice (some ad) na ca) :: (.slice (some bd) nb cb) :: (.agg CV) :: (.agg DV) :: undef :: undef :: (.pointer (some ⟨B, 0, none⟩)) :: (.pointer (some ⟨B + 1, 0, none⟩)) :: u8 :: s9 :: s10 :: (.pointer (some ⟨bp, 0, none⟩)) :: (.pointer (some ⟨bq, 0, none⟩)) :: (.bool SM) :: (.int .i64 i) :: undef :: (.slice (some ad) na ca) :: (.int .i64 na) :: u18 :: u18 :: (.slice (some bd) nb cb) :: (.int .i64 nb) :: (.slice (some ad) na ca) :: (.int .i64 na) :: u24 :: u25 :: undef :: s27 :: s28 :: s29 :: s30 :: s31 :: (.int .i64 i) :: (.slice (some ad) na ca) :: (.int .i64 na) :: (.bool true) :: u36 :: u37 :: (.slice (some ad) na ca) :: (.int .i64 i) :: (.pointer (some (ad.add i))) :: (.slice av NA cv) :: (.int .i64 NA) :: u43 :: u43 :: (.slice (some bd) nb cb) :: (.int .i64 i) :: (.pointer (some (bd.add i))) :: (.slice bv NB dv) :: (.int .i64 NB) :: u50 :: u51 :: u52 :: s53 :: s54 :: s55 :: s56 :: s57 :: s58 :: s59 :: s60 :: s61 :: s62 :: s9 :: s64 :: s65 :: s66 :: s67 :: s68 :: s69 :: s70 :: s71 :: s72 :: s73 :: s10 :: x.s75 :: x.s76 :: x.s77 :: x.s78 :: x.s79 :: x.s80 :: x.s81 :: x.s82 :: x.s83 :: x.s84 :: x.s85 :: x.s86 :: u87 :: u88 :: u89 :: u90 :: u91 :: u92 :: u93 :: u94 :: u95 :: u96 :: u97 :: u98 :: undef :: undef :: undef :: undef :: undef :: undef :: undef :: undef :: undef :: undef :: undef :: undef :: undef :: undef :: undef :: undef :: undef :: undef :: undef :: undef :: undef :: undef :: undef :: undef :: undef :: undef :: undef :: undef :: undef :: undef :: undef :: undef :: undef :: undef :: undef :: undef :: undef :: undef :: undef :: undef :: undef :: undef :: undef :: undef :: undef :: undef :: undef :: undef :: undef :: undef :: undef :: undef :: []), defers := [] }) (fun x W => (x.b0 = true → x.s75 = .agg PV) ∧ (x.b1 = true → x.s76 = .slice (some ad) na ca) ∧ (x.b2 = true → x.s77 = .int .i64 i) ∧ (x.b3 = true → x.s78 = .pointer (some (ad.add i))) ∧ (x.b4 = true → x.s79 = .slice av NA cv) ∧ (x.b5 = true → x.s80 = .agg P1) ∧ (x.b6 = true → x.s81 = .agg QV) ∧ (x.b7 = true → x.s82 = .slice (some bd) nb cb) ∧ (x.b8 = true → x.s83 = .int .i64 i) ∧ (x.b9 = true → x.s84 = .pointer (some (bd.add i))) ∧ (x.b10 = true → x.s85 = .slice bv NB dv) ∧ (x.b11 = true → x.s86 = .agg Q1) ∧ (x.b12 = true → x.b0 = true ∧ x.b5 = true ∧ x.b11 = true) ∧ (x.b13 = true → x.b6 = true ∧ x.b12 = true) ∧ (W.heap[bp]? = some (.cells (if x.b12 then P1 else PV) 33 (0, 0))) ∧ (W.heap[bq]? = some (.cells (if x.b13 then Q1 else QV) 33 (0, 0))) ∧ (Texts B W s9 (i + 1) XS (chX C Za)) ∧ (Texts B W s10 (i + 1) YS (chX D Zb)) ∧ (Below B w W)) ⟨false, false, false, false, false, false, false, false, false, false, false, false, false, false, u75, u76, u77, u78, u79, u80, u81, u82, u83, u84, u85, u86⟩ rfl rfl ⟨(fun h => by cases h), (fun h => by cases h), (fun h => by cases h), (fun h => by cases h), (fun h => by cases h), (fun h => by cases h), (fun h => by cases h), (fun h => by cases h), (fun h => by cases h), (fun h => by cases h), (fun h => by cases h), (fun h => by cases h), (fun h => by cases h), (fun h => by cases h), HP.out, HQ.out, TX.out, TY.out, HBWW.out.drew⟩ (fun _ => rfl) ?hstep ?hdone
              case hstep =>
                rintro ⟨b0, b1, b2, b3, b4, b5, b6, b7, b8, b9, b10, b11, b12, b13, s75, s76, s77, s78, s79, s80, s81, s82, s83, s84, s85, s86⟩ W hI i hi
                dsimp only at hI hi ⊢
                have HI := Lib.hid hI
                clear hI
                rw [Region.ready, List.mem_filter, List.mem_range] at hi
                obtain ⟨hlt, hp⟩ := hi
                have hi7 : i = 0 ∨ i = 1 ∨ i = 2 ∨ i = 3 ∨ i = 4 ∨ i = 5 ∨ i = 6 ∨ i = 7 ∨ i = 8 ∨ i = 9 ∨ i = 10 ∨ i = 11 ∨ i = 12 ∨ i = 13 := by simp at hlt; omega
                clear hlt
                rcases hi7 with rfl | rfl | rfl | rfl | rfl | rfl | rfl | rfl | rfl | rfl | rfl | rfl | rfl | rfl
                all_goals simp [Region.binds] at hp
                · have hn0 : b0 = false := by revert hp; cases b0 <;> simp
                  clear hp
                  subst hn0
                  refine inv_op (o := ⟨some 75, _, _, _, _, _⟩) rfl (fun K' hK' => ?_)
                  have o12 := HI.out.2.2.2.2.2.2.2.2.2.2.2.2.1
                  have gP := HI.out.2.2.2.2.2.2.2.2.2.2.2.2.2.2.1
                  have b12f : b12 = false := by cases b12 with | false => rfl | true => exact absurd ((fun h => (o12 h).1) rfl) (by simp)
                  subst b12f
                  rw [if_neg (by simp)] at gP
                  rw [if_pos (by kernel_rfl)]
                  refine wp_load_row 33 _ rfl bp rfl 33 PV (0, 0) _ gP und32 rfl (info32.trans HPZ.out.1) ?_
                  have gP2 := gP
                  obtain ⟨h0, h1, h2, h3, h4, h5, h6, h7, h8, h9, h10, h11, o12, o13, gP, gQ, gX, gY, gW⟩ := HI.out
                  exact hK'.out _ _ ⟨⟨true, b1, b2, b3, b4, b5, b6, b7, b8, b9, b10, b11, false, b13, _, s76, s77, s78, s79, s80, s81, s82, s83, s84, s85, s86⟩, rfl, rfl, (fun _ => rfl), h1, h2, h3, h4, h5, h6, h7, h8, h9, h10, h11, (fun h => by cases h), o13, gP, gQ, gX, gY, gW⟩
                · have hn1 : b1 = false := by revert hp; cases b1 <;> simp
                  clear hp
                  subst hn1
                  refine inv_op (o := ⟨some 76, _, _, _, _, _⟩) rfl (fun K' hK' => ?_)
                  go_simp
                  obtain ⟨h0, h1, h2, h3, h4, h5, h6, h7, h8, h9, h10, h11, o12, o13, gP, gQ, gX, gY, gW⟩ := HI.out
                  exact hK'.out _ _ ⟨⟨b0, true, b2, b3, b4, b5, b6, b7, b8, b9, b10, b11, b12, b13, s75, _, s77, s78, s79, s80, s81, s82, s83, s84, s85, s86⟩, rfl, rfl, h0, (fun _ => rfl), h2, h3, h4, h5, h6, h7, h8, h9, h10, h11, o12, o13, gP, gQ, gX, gY, gW⟩
                · have hn2 : b2 = false := by revert hp; cases b2 <;> simp
                  clear hp
                  subst hn2
                  refine inv_op (o := ⟨some 77, _, _, _, _, _⟩) rfl (fun K' hK' => ?_)
                  go_simp
                  obtain ⟨h0, h1, h2, h3, h4, h5, h6, h7, h8, h9, h10, h11, o12, o13, gP, gQ, gX, gY, gW⟩ := HI.out
                  exact hK'.out _ _ ⟨⟨b0, b1, true, b3, b4, b5, b6, b7, b8, b9, b10, b11, b12, b13, s75, s76, _, s78, s79, s80, s81, s82, s83, s84, s85, s86⟩, rfl, rfl, h0, h1, (fun _ => rfl), h3, h4, h5, h6, h7, h8, h9, h10, h11, o12, o13, gP, gQ, gX, gY, gW⟩
                · have hn3 : b3 = false := by revert hp; cases b3 <;> simp
                  have e1 : b1 = true := by revert hp; cases b1 <;> simp
                  have e2 : b2 = true := by revert hp; cases b2 <;> simp
                  clear hp
                  obtain rfl := (HI.out.2.1) e1
                  obtain rfl := (HI.out.2.2.1) e2
                  subst hn3
                  refine inv_op (o := ⟨some 78, _, _, _, _, _⟩) rfl (fun K' hK' => ?_)
                  go_simp
                  obtain ⟨h0, h1, h2, h3, h4, h5, h6, h7, h8, h9, h10, h11, o12, o13, gP, gQ, gX, gY, gW⟩ := HI.out
                  exact hK'.out _ _ ⟨⟨b0, b1, b2, true, b4, b5, b6, b7, b8, b9, b10, b11, b12, b13, s75, _, _, _, s79, s80, s81, s82, s83, s84, s85, s86⟩, rfl, rfl, h0, h1, h2, (fun _ => rfl), h4, h5, h6, h7, h8, h9, h10, h11, o12, o13, gP, gQ, gX, gY, gW⟩
                · have hn4 : b4 = false := by revert hp; cases b4 <;> simp
                  have e3 : b3 = true := by revert hp; cases b3 <;> simp
                  clear hp
                  obtain rfl := (HI.out.2.2.2.1) e3
                  subst hn4
                  refine inv_op (o := ⟨some 79, _, _, _, _, _⟩) rfl (fun K' hK' => ?_)
                  have gW := HI.out.2.2.2.2.2.2.2.2.2.2.2.2.2.2.2.2.2.2
                  have hc := (HGA.out W gW).1
                  go_simp
                  obtain ⟨h0, h1, h2, h3, h4, h5, h6, h7, h8, h9, h10, h11, o12, o13, gP, gQ, gX, gY, gW⟩ := HI.out
                  exact hK'.out _ _ ⟨⟨b0, b1, b2, b3, true, b5, b6, b7, b8, b9, b10, b11, b12, b13, s75, s76, s77, _, _, s80, s81, s82, s83, s84, s85, s86⟩, rfl, rfl, h0, h1, h2, h3, (fun _ => rfl), h5, h6, h7, h8, h9, h10, h11, o12, o13, gP, gQ, gX, gY, gW⟩
                · have hn5 : b5 = false := by revert hp; cases b5 <;> simp
                  have e0 : b0 = true := by revert hp; cases b0 <;> simp
                  have e4 : b4 = true := by revert hp; cases b4 <;> simp
                  clear hp
                  obtain rfl := (HI.out.1) e0
                  obtain rfl := (HI.out.2.2.2.2.1) e4
                  subst hn5
                  refine inv_op (o := ⟨some 80, _, _, _, _, _⟩) rfl (fun K' hK' => ?_)
                  have o12 := HI.out.2.2.2.2.2.2.2.2.2.2.2.2.1
                  have gW := HI.out.2.2.2.2.2.2.2.2.2.2.2.2.2.2.2.2.2.2
                  have b12f : b12 = false := by cases b12 with | false => rfl | true => exact absurd ((fun h => (o12 h).2.1) rfl) (by simp)
                  subst b12f
                  have gw := gW
                  go_simp
                  refine (HLP.out W gw).mono ?_
                  rintro e w1 ⟨rfl, bn⟩
                  obtain ⟨h0, h1, h2, h3, h4, h5, h6, h7, h8, h9, h10, h11, o12, o13, gP, gQ, gX, gY, gW⟩ := HI.out
                  exact hK'.out _ _ ⟨⟨b0, b1, b2, b3, b4, true, b6, b7, b8, b9, b10, b11, false, b13, _, s76, s77, s78, _, _, s81, s82, s83, s84, s85, s86⟩, rfl, rfl, h0, h1, h2, h3, h4, (fun _ => rfl), h6, h7, h8, h9, h10, h11, (fun h => by cases h), o13, ((bn.block _ (Array.getElem?_eq_some_iff.1 gP).1).trans gP), ((bn.block _ (Array.getElem?_eq_some_iff.1 gQ).1).trans gQ), (gX.below bn), (gY.below bn), (gW.trans (bn.mono (by have h2 := gW.size; have h3 := HBB.out; omega)))⟩
                · have hn6 : b6 = false := by revert hp; cases b6 <;> simp
                  clear hp
                  subst hn6
                  refine inv_op (o := ⟨some 81, _, _, _, _, _⟩) rfl (fun K' hK' => ?_)
                  have o13 := HI.out.2.2.2.2.2.2.2.2.2.2.2.2.2.1
                  have gQ := HI.out.2.2.2.2.2.2.2.2.2.2.2.2.2.2.2.1
                  have b13f : b13 = false := by cases b13 with | false => rfl | true => exact absurd ((fun h => (o13 h).1) rfl) (by simp)
                  subst b13f
                  rw [if_neg (by simp)] at gQ
                  rw [if_pos (by kernel_rfl)]
                  refine wp_load_row 33 _ rfl bq rfl 33 QV (0, 0) _ gQ und32 rfl (info32.trans HQZ.out.1) ?_
                  obtain ⟨h0, h1, h2, h3, h4, h5, h6, h7, h8, h9, h10, h11, o12, o13, gP, gQ, gX, gY, gW⟩ := HI.out
                  exact hK'.out _ _ ⟨⟨b0, b1, b2, b3, b4, b5, true, b7, b8, b9, b10, b11, b12, false, s75, s76, s77, s78, s79, s80, _, s82, s83, s84, s85, s86⟩, rfl, rfl, h0, h1, h2, h3, h4, h5, (fun _ => rfl), h7, h8, h9, h10, h11, o12, (fun h => by cases h), gP, gQ, gX, gY, gW⟩
                · have hn7 : b7 = false := by revert hp; cases b7 <;> simp
                  clear hp
                  subst hn7
                  refine inv_op (o := ⟨some 82, _, _, _, _, _⟩) rfl (fun K' hK' => ?_)
                  go_simp
                  obtain ⟨h0, h1, h2, h3, h4, h5, h6, h7, h8, h9, h10, h11, o12, o13, gP, gQ, gX, gY, gW⟩ := HI.out
                  exact hK'.out _ _ ⟨⟨b0, b1, b2, b3, b4, b5, b6, true, b8, b9, b10, b11, b12, b13, s75, s76, s77, s78, s79, s80, s81, _, s83, s84, s85, s86⟩, rfl, rfl, h0, h1, h2, h3, h4, h5, h6, (fun _ => rfl), h8, h9, h10, h11, o12, o13, gP, gQ, gX, gY, gW⟩
                · have hn8 : b8 = false := by revert hp; cases b8 <;> simp
                  clear hp
                  subst hn8
                  refine inv_op (o := ⟨some 83, _, _, _, _, _⟩) rfl (fun K' hK' => ?_)
                  go_simp
                  obtain ⟨h0, h1, h2, h3, h4, h5, h6, h7, h8, h9, h10, h11, o12, o13, gP, gQ, gX, gY, gW⟩ := HI.out
                  exact hK'.out _ _ ⟨⟨b0, b1, b2, b3, b4, b5, b6, b7, true, b9, b10, b11, b12, b13, s75, s76, s77, s78, s79, s80, s81, s82, _, s84, s85, s86⟩, rfl, rfl, h0, h1, h2, h3, h4, h5, h6, h7, (fun _ => rfl), h9, h10, h11, o12, o13, gP, gQ, gX, gY, gW⟩
                · have hn9 : b9 = false := by revert hp; cases b9 <;> simp
                  have e7 : b7 = true := by revert hp; cases b7 <;> simp
                  have e8 : b8 = true := by revert hp; cases b8 <;> simp
                  clear hp
                  obtain rfl := (HI.out.2.2.2.2.2.2.2.1) e7
                  obtain rfl := (HI.out.2.2.2.2.2.2.2.2.1) e8
                  subst hn9
                  refine inv_op (o := ⟨some 84, _, _, _, _, _⟩) rfl (fun K' hK' => ?_)
                  go_simp
                  obtain ⟨h0, h1, h2, h3, h4, h5, h6, h7, h8, h9, h10, h11, o12, o13, gP, gQ, gX, gY, gW⟩ := HI.out
                  exact hK'.out _ _ ⟨⟨b0, b1, b2, b3, b4, b5, b6, b7, b8, true, b10, b11, b12, b13, s75, s76, s77, s78, s79, s80, s81, _, _, _, s85, s86⟩, rfl, rfl, h0, h1, h2, h3, h4, h5, h6, h7, h8, (fun _ => rfl), h10, h11, o12, o13, gP, gQ, gX, gY, gW⟩
                · have hn10 : b10 = false := by revert hp; cases b10 <;> simp
                  have e9 : b9 = true := by revert hp; cases b9 <;> simp
                  clear hp
                  obtain rfl := (HI.out.2.2.2.2.2.2.2.2.2.1) e9
                  subst hn10
                  refine inv_op (o := ⟨some 85, _, _, _, _, _⟩) rfl (fun K' hK' => ?_)
                  have gW := HI.out.2.2.2.2.2.2.2.2.2.2.2.2.2.2.2.2.2.2
                  have hc := (HGB.out W gW).1
                  go_simp
                  obtain ⟨h0, h1, h2, h3, h4, h5, h6, h7, h8, h9, h10, h11, o12, o13, gP, gQ, gX, gY, gW⟩ := HI.out
                  exact hK'.out _ _ ⟨⟨b0, b1, b2, b3, b4, b5, b6, b7, b8, b9, true, b11, b12, b13, s75, s76, s77, s78, s79, s80, s81, s82, s83, _, _, s86⟩, rfl, rfl, h0, h1, h2, h3, h4, h5, h6, h7, h8, h9, (fun _ => rfl), h11, o12, o13, gP, gQ, gX, gY, gW⟩
                · have hn11 : b11 = false := by revert hp; cases b11 <;> simp
                  have e6 : b6 = true := by revert hp; cases b6 <;> simp
                  have e10 : b10 = true := by revert hp; cases b10 <;> simp
                  clear hp
                  obtain rfl := (HI.out.2.2.2.2.2.2.1) e6
                  obtain rfl := (HI.out.2.2.2.2.2.2.2.2.2.2.1) e10
                  subst hn11
                  refine inv_op (o := ⟨some 86, _, _, _, _, _⟩) rfl (fun K' hK' => ?_)
                  have o12 := HI.out.2.2.2.2.2.2.2.2.2.2.2.2.1
                  have gW := HI.out.2.2.2.2.2.2.2.2.2.2.2.2.2.2.2.2.2.2
                  have b12f : b12 = false := by cases b12 with | false => rfl | true => exact absurd ((fun h => (o12 h).2.2) rfl) (by simp)
                  subst b12f
                  have gw := gW
                  go_simp
                  refine (HLQ.out W gw).mono ?_
                  rintro e w1 ⟨rfl, bn⟩
                  obtain ⟨h0, h1, h2, h3, h4, h5, h6, h7, h8, h9, h10, h11, o12, o13, gP, gQ, gX, gY, gW⟩ := HI.out
                  exact hK'.out _ _ ⟨⟨b0, b1, b2, b3, b4, b5, b6, b7, b8, b9, b10, true, false, b13, s75, s76, s77, s78, s79, s80, _, s82, s83, s84, _, _⟩, rfl, rfl, h0, h1, h2, h3, h4, h5, h6, h7, h8, h9, h10, (fun _ => rfl), (fun h => by cases h), o13, ((bn.block _ (Array.getElem?_eq_some_iff.1 gP).1).trans gP), ((bn.block _ (Array.getElem?_eq_some_iff.1 gQ).1).trans gQ), (gX.below bn), (gY.below bn), (gW.trans (bn.mono (by have h2 := gW.size; have h3 := HBB.out; omega)))⟩
                · have hn12 : b12 = false := by revert hp; cases b12 <;> simp
                  have e0 : b0 = true := by revert hp; cases b0 <;> simp
                  have e5 : b5 = true := by revert hp; cases b5 <;> simp
                  have e11 : b11 = true := by revert hp; cases b11 <;> simp
                  clear hp
                  obtain rfl := (HI.out.2.2.2.2.2.1) e5
                  subst hn12
                  refine inv_op (o := ⟨none, _, _, _, _, _⟩) rfl (fun K' hK' => ?_)
                  have o13 := HI.out.2.2.2.2.2.2.2.2.2.2.2.2.2.1
                  have gP := HI.out.2.2.2.2.2.2.2.2.2.2.2.2.2.2.1
                  have b13f : b13 = false := by cases b13 with | false => rfl | true => exact absurd ((fun h => (o13 h).2) rfl) (by simp)
                  subst b13f
                  rw [if_neg (by simp)] at gP
                  rw [if_pos (by kernel_rfl)]
                  refine wp_store_row 33 _ _ rfl bp P1 rfl rfl 33 PV gP (info32.trans HP1Z.out.1) (HPZ.out.2.trans HP1Z.out.2.1) HP1Z.out.2.2 ?_
                  have gp := gP
                  obtain ⟨h0, h1, h2, h3, h4, h5, h6, h7, h8, h9, h10, h11, o12, o13, gP, gQ, gX, gY, gW⟩ := HI.out
                  exact hK'.out _ _ ⟨⟨b0, b1, b2, b3, b4, b5, b6, b7, b8, b9, b10, b11, true, false, s75, s76, s77, s78, s79, _, s81, s82, s83, s84, s85, s86⟩, rfl, rfl, h0, h1, h2, h3, h4, h5, h6, h7, h8, h9, h10, h11, (fun _ => ⟨e0, e5, e11⟩), (fun h => by cases h), (setRow_heap _ _ _ _ _ _ gp), ((setRow_other _ _ _ _ (Ne.symm HNEQ.out)).trans gQ), (gX.setRow gp _), (gY.setRow gp _), (below_setRow gW HBP.out.1 _)⟩
                · have hn13 : b13 = false := by revert hp; cases b13 <;> simp
                  have e6 : b6 = true := by revert hp; cases b6 <;> simp
                  have e11 : b11 = true := by revert hp; cases b11 <;> simp
                  have e12 : b12 = true := by revert hp; cases b12 <;> simp
                  clear hp
                  obtain rfl := (HI.out.2.2.2.2.2.2.2.2.2.2.2.1) e11
                  subst hn13
                  refine inv_op (o := ⟨none, _, _, _, _, _⟩) rfl (fun K' hK' => ?_)
                  have gQ := HI.out.2.2.2.2.2.2.2.2.2.2.2.2.2.2.2.1
                  rw [if_neg (by simp)] at gQ
                  rw [if_pos (by kernel_rfl)]
                  refine wp_store_row 33 _ _ rfl bq Q1 rfl rfl 33 QV gQ (info32.trans HQ1Z.out.1) (HQZ.out.2.trans HQ1Z.out.2.1) HQ1Z.out.2.2 ?_
                  have gq := gQ
                  obtain ⟨h0, h1, h2, h3, h4, h5, h6, h7, h8, h9, h10, h11, o12, o13, gP, gQ, gX, gY, gW⟩ := HI.out
                  exact hK'.out _ _ ⟨⟨b0, b1, b2, b3, b4, b5, b6, b7, b8, b9, b10, b11, b12, true, s75, s76, s77, s78, s79, s80, s81, s82, s83, s84, s85, _⟩, rfl, rfl, h0, h1, h2, h3, h4, h5, h6, h7, h8, h9, h10, h11, o12, (fun _ => ⟨e6, e12⟩), ((setRow_other _ _ _ _ HNEQ.out).trans gP), (setRow_heap _ _ _ _ _ _ gq), (gX.setRow gq _), (gY.setRow gq _), (below_setRow gW HBP.out.2 _)⟩
              case hdone =>
                rintro ⟨b0, b1, b2, b3, b4, b5, b6, b7, b8, b9, b10, b11, b12, b13, s75, s76, s77, s78, s79, s80, s81, s82, s83, s84, s85, s86⟩ W hI hall
                dsimp only at hI hall ⊢
                have HI := Lib.hid hI
                clear hI
                obtain rfl : b12 = true := hall 12 (by decide)
                obtain rfl : b13 = true := hall 13 (by decide)
                have gP := HI.out.2.2.2.2.2.2.2.2.2.2.2.2.2.2.1
                have gQ := HI.out.2.2.2.2.2.2.2.2.2.2.2.2.2.2.2.1
                have gX := HI.out.2.2.2.2.2.2.2.2.2.2.2.2.2.2.2.2.1
                have gY := HI.out.2.2.2.2.2.2.2.2.2.2.2.2.2.2.2.2.2.1
                have gW := HI.out.2.2.2.2.2.2.2.2.2.2.2.2.2.2.2.2.2.2
                clear HI hall
                rw [if_pos rfl] at gP gQ
                have HP := Lib.hid (show W.heap[bp]? = some (.cells (byteCells (chF C Za (i + 1))).toArray 33 (0, 0)) by
                  rw [gP, HP1E.out, chF_succ]
                  unfold chX
                  rw [← HPE.out])
                have HQ := Lib.hid (show W.heap[bq]? = some (.cells (byteCells (chF D Zb (i + 1))).toArray 33 (0, 0)) by
                  rw [gQ, HQ1E.out, chF_succ]
                  unfold chX
                  rw [← HQE.out])
                clear TX TY
                have TX := Lib.hid gX
                have TY := Lib.hid gY
                have BW := Lib.hid gW
                clear gP gQ gX gY gW HBWW HLP HLQ HPZ HQZ HP1Z HQ1Z HP1E HQ1E
                obtain ⟨wr3, hwr3⟩ : ∃ x, x = W := ⟨_, rfl⟩
                subst hwr3
                have HIA := Lib.hid (show ∀ n, IsBytes (wr3.drewN n) (.slice av NA cv) (Za i) from fun n => (HGA.out _ (below_drewN BW.out n)).2.1)
                have HIB := Lib.hid (show ∀ n, IsBytes (wr3.drewN n) (.slice bv NB dv) (Zb i) from fun n => (HGB.out _ (below_drewN BW.out n)).2.1)
                have hca := (HGA.out _ BW.out).1
                have hcb := (HGB.out _ BW.out).1
                have HD := Lib.hid (show ∀ n, Below wr3.heap.size wr3 (wr3.drewN n) from fun n => below_drewN (Below.refl _ _) n)
                have HSS := Lib.hid (show sames C D Za Zb (i + 1) = (SM && decide (Za i = Zb i)) by rw [HSM.out]; rfl)
                rcases Bool.eq_false_or_eq_true SM with hs | hs
                · subst hs
                  go_wp2_with fail
                  go_quiet ((go_at_call 12; refine Calls.quiet_of_same ((bytes_is _ _ (Za i) (Zb i) _ (HIA.out _) (HIB.out _)).mono (fun e w2 h => ⟨h.1, h.2.symm⟩))))
                  go_wp2_with fail
                  refine ⟨⟨i + 1, XS, YS, by omega, by go_num, by rw [HSS.out, Bool.true_and], TX.out.below (HD.out _), TY.out.below (HD.out _), NE.out, ((HD.out _).block bp (Array.getElem?_eq_some_iff.1 HP.out).1).trans HP.out, ((HD.out _).block bq (Array.getElem?_eq_some_iff.1 HQ.out).1).trans HQ.out, below_drewN BW.out _, fun j hj => by
                    rcases Nat.lt_succ_iff_lt_or_eq.1 hj with h | h
                    · exact LEN.out j h
                    · subst h
                      exact ⟨by rw [← HNA.out]; omega, by rw [← HNB.out]; omega⟩⟩, ?_⟩
                  simp [RowKit.intOf]
                  omega
                · subst hs
                  go_wp2_with fail
                  go_quiet (fail)
                  go_wp2_with fail
                  refine ⟨⟨i + 1, XS, YS, by omega, by go_num, by rw [HSS.out, Bool.false_and], TX.out.below (HD.out _), TY.out.below (HD.out _), NE.out, ((HD.out _).block bp (Array.getElem?_eq_some_iff.1 HP.out).1).trans HP.out, ((HD.out _).block bq (Array.getElem?_eq_some_iff.1 HQ.out).1).trans HQ.out, below_drewN BW.out _, fun j hj => by
                    rcases Nat.lt_succ_iff_lt_or_eq.1 hj with h | h
                    · exact LEN.out j h
                    · subst h
                      exact ⟨by rw [← HNA.out]; omega, by rw [← HNB.out]; omega⟩⟩, ?_⟩
                  simp [RowKit.intOf]
                  omega
      · obtain rfl : i = na := by omega
        obtain ⟨PL, hPL⟩ : ∃ x, x = chF C Za i := ⟨_, rfl⟩
        obtain ⟨QL, hQL⟩ : ∃ x, x = chF D Zb i := ⟨_, rfl⟩
        obtain ⟨SM, hSM⟩ : ∃ b, b = sames C D Za Zb i := ⟨_, rfl⟩
        rw [← hSM]
        have hp32 : PL.length = 32 := by rw [hPL]; exact chF_length _ _ HCD.out.1 _
        have hq32 : QL.length = 32 := by rw [hQL]; exact chF_length _ _ HCD.out.2 _
        obtain ⟨PV, hPV⟩ : ∃ x, x = (byteCells PL).toArray := ⟨_, rfl⟩
        obtain ⟨QV, hQV⟩ : ∃ x, x = (byteCells QL).toArray := ⟨_, rfl⟩
        rw [← hPL, ← hPV] at HP
        rw [← hQL, ← hQV] at HQ
        have HPZ := Lib.hid (show (some 32 : Option Nat) = some PV.size by rw [hPV]; simp [byteCells, hp32])
        have HQZ := Lib.hid (show (some 32 : Option Nat) = some QV.size by rw [hQV]; simp [byteCells, hq32])
        have heq : ∀ W : World, (Op.equalIn 10000 33 (.agg PV) (.agg QV)).run Tryd.prog W = .ok (decide (PL = QL)) W := fun W => by
          rw [hPV, hQV, equalIn_bytes W 33 5 32 _ _ hp32 hq32 und32 Tryd.underlying5 size8]
        have HHD := Lib.hid (heads_any _ (HL.out _ BW.out))
        have HBE := Lib.hid (show ∀ w1, Below wr.heap.size wr w1 → Below B w w1 from fun w1 h => BW.out.trans (h.mono (by have := BW.out.size; have := HBB.out; omega)))
        by_cases hpq2 : PL = QL
        · rw [decide_eq_true hpq2] at heq
          rcases Bool.eq_false_or_eq_true SM with hs | hs
          · subst hs
            clear hSM hPL hQL hPV hQV hp32 hq32 hpq2
            go_wp2_with (first | (refine wpList_load_row rfl 33 _ rfl bp rfl 33 PV (0, 0) _ HP.out und32 rfl (info32.trans HPZ.out) ?_) | (refine wpList_load_row rfl 33 _ rfl bq rfl 33 QV (0, 0) _ HQ.out und32 rfl (info32.trans HQZ.out) ?_))
            refine HHD.out.mono ?_
            rintro e w1 ⟨rfl, hb⟩
            have HF := Lib.hid (HBE.out w1 hb)
            clear hb
            go_wp2_with fail
            go_ret
            rw [← HBB.out]
            exact ⟨rfl, HF.out⟩
          · subst hs
            have HSM := Lib.hid hSM
            have HPQ := Lib.hid (show chF C Za i = chF D Zb i by rw [← hPL, ← hQL]; exact hpq2)
            clear hSM hPL hQL hPV hQV hp32 hq32 hpq2
            go_wp2_with (first | (refine wpList_load_row rfl 33 _ rfl bp rfl 33 PV (0, 0) _ HP.out und32 rfl (info32.trans HPZ.out) ?_) | (refine wpList_load_row rfl 33 _ rfl bq rfl 33 QV (0, 0) _ HQ.out und32 rfl (info32.trans HQZ.out) ?_))
            obtain ⟨j0, hj0, hxne, hseq⟩ := chF_collide C D Za Zb HCD.out.1 HCD.out.2 i HPQ.out HSM.out.symm
            obtain ⟨gx, cx, hgx⟩ : ∃ gx cx, u9 = .slice (some ⟨gx, 0, none⟩) i cx := by
              rcases TX.out.1.2 with ⟨_, h0⟩ | ⟨g, cap, cur, h, _⟩
              · omega
              · exact ⟨g, cap, h⟩
            obtain ⟨gy, cy, hgy⟩ : ∃ gy cy, u10 = .slice (some ⟨gy, 0, none⟩) i cy := by
              rcases TY.out.1.2 with ⟨_, h0⟩ | ⟨g, cap, cur, h, _⟩
              · omega
              · exact ⟨g, cap, h⟩
            subst hgx hgy
            obtain ⟨w9, hw9⟩ : ∃ x, x = wr := ⟨_, rfl⟩
            subst hw9
            have HXN := Lib.hid hxne
            have HSE := Lib.hid hseq
            clear hxne hseq
            go_loopw [15] (fun c wr => ∃ j : Nat, j ≤ j0 ∧ c = .int .i64 j ∧ Below w9.heap.size w9 wr) (fun c _ => i - (RowKit.intOf c).toNat)
            case atStart => exact ⟨0, Nat.zero_le _, rfl, Below.refl _ _⟩
            case round =>
              obtain ⟨j, hj, rfl, bq2⟩ := hrel
              have BQ := Lib.hid bq2
              have hji : j < i := by omega
              have hxl := TX.out.len
              have hyl := TY.out.len
              obtain ⟨ux, hux⟩ : ∃ u, xs[j]? = some u := ⟨_, List.getElem?_eq_getElem (by omega)⟩
              obtain ⟨uy, huy⟩ : ∃ u, ys[j]? = some u := ⟨_, List.getElem?_eq_getElem (by omega)⟩
              have hax := isArg_of_owns (TX.out.2 j ux hux)
              have hay := isArg_of_owns (TY.out.2 j uy huy)
              obtain ⟨a1, c1, h1⟩ := hax.1.shape
              obtain ⟨a2, c2, h2⟩ := hay.1.shape
              obtain ⟨X, hX⟩ : ∃ x, x = chX C Za j := ⟨_, rfl⟩
              obtain ⟨Y, hY⟩ : ∃ x, x = chX D Zb j := ⟨_, rfl⟩
              have hXl : X.length ≤ 132 := by
                rw [hX]
                show (chF C Za j ++ Za j).length ≤ 132
                rw [List.length_append, chF_length _ _ HCD.out.1]
                have := (LEN.out j hji).1
                omega
              have hYl : Y.length ≤ 132 := by
                rw [hY]
                show (chF D Zb j ++ Zb j).length ≤ 132
                rw [List.length_append, chF_length _ _ HCD.out.2]
                have := (LEN.out j hji).2
                omega
              rw [← hX] at hax h1
              rw [← hY] at hay h2
              obtain ⟨N1, hN1⟩ : ∃ n, n = X.length := ⟨_, rfl⟩
              obtain ⟨N2, hN2⟩ : ∃ n, n = Y.length := ⟨_, rfl⟩
              rw [← hN1] at h1
              rw [← hN2] at h2
              subst h1 h2
              have hcx : w9.cell? ⟨gx, j, none⟩ = some (.slice a1 N1 c1) := by
                have h := TX.out.1.cells (g := gx) rfl j _ hux
                rwa [Addr.add_lit, Nat.zero_add] at h
              have hcy : w9.cell? ⟨gy, j, none⟩ = some (.slice a2 N2 c2) := by
                have h := TY.out.1.cells (g := gy) rfl j _ huy
                rwa [Addr.add_lit, Nat.zero_add] at h
              have HCX := Lib.hid (show ∀ W, Below w9.heap.size w9 W → W.cell? ⟨gx, j, none⟩ = some (.slice a1 N1 c1) from fun W h => (h.cell (World.block_lt_of_cell? _ _ hcx)).trans hcx)
              have HCY := Lib.hid (show ∀ W, Below w9.heap.size w9 W → W.cell? ⟨gy, j, none⟩ = some (.slice a2 N2 c2) from fun W h => (h.cell (World.block_lt_of_cell? _ _ hcy)).trans hcy)
              have HAX := Lib.hid (show ∀ W, Below w9.heap.size w9 W → IsArg W (.slice a1 N1 c1) X from fun W h => hax.below h)
              have HAY := Lib.hid (show ∀ W, Below w9.heap.size w9 W → IsArg W (.slice a2 N2 c2) Y from fun W h => hay.below h)
              have HLW := Lib.hid (show ∀ W, Below w9.heap.size w9 W → Laid W from fun W h => HL.out W (HBE.out W h))
              have HXE := Lib.hid hX
              have HYE := Lib.hid hY
              by_cases hxy : X = Y
              · have hjj : j ≠ j0 := fun e => HXN.out (by rw [← e, ← hX, ← hY]; exact hxy)
                have HBY := Lib.hid (show ∀ n, Calls Tryd.prog 12 #[.slice a1 N1 c1, .slice a2 N2 c2] (wr.drewN n) fun e w' => e = .returned (.bool true) ∧ w' = wr.drewN n from fun n =>
                  (bytes_is _ _ X Y _ (HAX.out _ (below_drewN BQ.out n)).1 (HAY.out _ (below_drewN BQ.out n)).1).mono (fun e w2 h => ⟨by rw [h.1, decide_eq_true hxy], h.2.symm⟩))
                have hca := HCX.out _ BQ.out
                have hcb := HCY.out _ BQ.out
                clear bq2 hax hay hX hY hXl hYl hN1 hN2 hcx hcy hxy hux huy
                go_wp2_with fail
                go_quiet ((go_at_call 12; refine Calls.quiet_of_same (HBY.out _)))
                go_wp2_with fail
                refine ⟨⟨j + 1, by omega, by go_num, below_drewN BQ.out _⟩, ?_⟩
                simp [RowKit.intOf]
                omega
              · obtain ⟨EQ, hEQ⟩ : ∃ b, b = decide (shaOf X = shaOf Y) := ⟨_, rfl⟩
                obtain ⟨SX, hSX⟩ : ∃ x, x = (byteCells (shaOf X)).toArray := ⟨_, rfl⟩
                obtain ⟨SY, hSY⟩ : ∃ x, x = (byteCells (shaOf Y)).toArray := ⟨_, rfl⟩
                have HBY := Lib.hid (show ∀ W, Below w9.heap.size w9 W → Calls Tryd.prog 12 #[.slice a1 N1 c1, .slice a2 N2 c2] W fun e w' => e = .returned (.bool false) ∧ W = w' from fun W h =>
                  (bytes_is _ _ X Y _ (HAX.out _ h).1 (HAY.out _ h).1).mono (fun e w2 h => ⟨by rw [h.1, decide_eq_false hxy], h.2⟩))
                have HOX := Lib.hid (show ∀ W, Below w9.heap.size w9 W → Calls Tryd.prog 15 #[.slice a1 N1 c1] W fun e w' => e = .returned (.agg SX) ∧ Below W.heap.size W w' from fun W h => by
                  rw [hSX]; exact of_any _ X (by omega) W (HAX.out W h) (HLW.out W h))
                have HOY := Lib.hid (show ∀ W, Below w9.heap.size w9 W → Calls Tryd.prog 15 #[.slice a2 N2 c2] W fun e w' => e = .returned (.agg SY) ∧ Below W.heap.size W w' from fun W h => by
                  rw [hSY]; exact of_any _ Y (by omega) W (HAY.out W h) (HLW.out W h))
                have HES := Lib.hid (show ∀ W : World, (Op.equalIn 10000 33 (.agg SX) (.agg SY)).run Tryd.prog W = .ok EQ W from fun W => by
                  rw [hSX, hSY, hEQ, equalIn_bytes W 33 5 32 _ _ (shaOf_length _) (shaOf_length _) und32 Tryd.underlying5 size8])
                have HEQ2 := Lib.hid (show EQ = false → j ≠ j0 from fun h e => by
                  rw [hEQ] at h
                  exact absurd (by rw [hX, hY, e]; exact HSE.out) (of_decide_eq_false h))
                clear bq2 hax hay hX hY hXl hYl hN1 hN2 hcx hcy hxy hux huy hSX hSY hEQ
                go_wp2_with fail
                refine wp_region_rec (X := ChainE) (by kernel_rfl) (by kernel_rfl) (fun x => #[x.b0, x.b1, x.b2, x.b3, x.b4, x.b5, x.b6, x.b7, x.b8, x.b9, x.b10, x.b11, x.b12, x.b13, x.b14, x.b15, x.b16, x.b17, x.b18, x.b19, x.b20, x.b21, x.b22]) (fun x => { tmps := List.toArray ((.slice a i ca) :: (.slice b nb cb) :: (.agg CV) :: (.agg DV) :: undef :: undef :: (.pointer (some ⟨B, 0, none⟩)) :: (.pointer (some ⟨B + 1, 0, none⟩)) :: u8 :: (.slice (some ⟨gx, 0, none⟩) i cx) :: (.slice (some ⟨gy, 0, none⟩) i cy) :: (.pointer (some ⟨bp, 0, none⟩)) :: (.pointer (some ⟨bq, 0, none⟩)) :: (.bool false) :: (.int .i64 i) :: (.int .i64 j) :: (.slice a i ca) :: (.int .i64 i) :: u18 :: u18 :: (.slice b nb cb) :: (.int .i64 nb) :: (.slice a i ca) :: (.int .i64 i) :: u24 :: u25 :: undef :: s27 :: s28 :: s29 :: s30 :: s31 :: (.int .i64 i) :: (.slice a i ca) :: (.int .i64 i) :: (.bool false) :: u36 :: u37 :: u38 :: u39 :: u40 :: u41 :: u42 :: u43 :: u44 :: u45 :: u46 :: u47 :: u48 :: u49 :: u50 :: u51 :: u52 :: u53 :: u54 :: u55 :: u56 :: u57 :: u58 :: u59 :: u60 :: u61 :: u62 :: u63 :: u64 :: u65 :: u66 :: u67 :: u68 :: u69 :: u70 :: u71 :: u72 :: u73 :: u74 :: u75 :: u76 :: u77 :: u78 :: u79 :: u80 :: u81 :: u82 :: u83 :: u84 :: u85 :: u86 :: u87 :: u88 :: u89 :: u90 :: u91 :: u92 :: u93 :: u94 :: u95 :: u96 :: u97 :: u98 :: (.agg PV) :: (.agg QV) :: (.bool false) :: (.bool false) :: (.bool false) :: (.bool false) :: undef :: undef :: undef :: undef :: undef :: undef :: undef :: undef :: undef :: undef :: (.int .i64 j) :: (.slice (some ⟨gx, 0, none⟩) i cx) :: (.int .i64 i) :: (.bool true) :: u119 :: u120 :: x.s121 :: x.s122 :: x.s123 :: x.s124 :: x.s125 :: x.s126 :: x.s127 :: x.s128 :: x.s129 :: x.s130 :: x.s131 :: x.s132 :: x.s133 :: x.s134 :: x.s135 :: x.s136 :: x.s137 :: x.s138 :: x.s139 :: x.s140 :: x.s141 :: x.s142 :: x.s143 :: u144 :: undef :: undef :: undef :: undef :: undef :: undef :: []), defers := [] }) (fun x W => (x.b0 = true → x.s121 = .slice (some ⟨gx, 0, none⟩) i cx) ∧ (x.b1 = true → x.s122 = .int .i64 j) ∧ (x.b2 = true → x.s123 = .pointer (some ⟨gx, j, none⟩)) ∧ (x.b3 = true → x.s124 = .slice a1 N1 c1) ∧ (x.b4 = true → x.s125 = .slice (some ⟨gy, 0, none⟩) i cy) ∧ (x.b5 = true → x.s126 = .int .i64 j) ∧ (x.b6 = true → x.s127 = .pointer (some ⟨gy, j, none⟩)) ∧ (x.b7 = true → x.s128 = .slice a2 N2 c2) ∧ (x.b8 = true → x.s129 = .bool false) ∧ (x.b9 = true → x.s130 = .bool true) ∧ (x.b10 = true → x.s131 = .bool true) ∧ (x.b11 = true → x.s132 = .slice (some ⟨gx, 0, none⟩) i cx) ∧ (x.b12 = true → x.s133 = .int .i64 j) ∧ (x.b13 = true → x.s134 = .pointer (some ⟨gx, j, none⟩)) ∧ (x.b14 = true → x.s135 = .slice a1 N1 c1) ∧ (x.b15 = true → x.s136 = .agg SX) ∧ (x.b16 = true → x.s137 = .slice (some ⟨gy, 0, none⟩) i cy) ∧ (x.b17 = true → x.s138 = .int .i64 j) ∧ (x.b18 = true → x.s139 = .pointer (some ⟨gy, j, none⟩)) ∧ (x.b19 = true → x.s140 = .slice a2 N2 c2) ∧ (x.b20 = true → x.s141 = .agg SY) ∧ (x.b21 = true → x.s142 = .bool EQ) ∧ (x.b22 = true → x.s143 = .bool EQ) ∧ (Below w9.heap.size w9 W)) ⟨false, false, false, false, false, false, false, false, false, false, false, false, false, false, false, false, false, false, false, false, false, false, false, u121, u122, u123, u124, u125, u126, u127, u128, u129, u130, u131, u132, u133, u134, u135, u136, u137, u138, u139, u140, u141, u142, u143⟩ rfl rfl ⟨(fun h => by cases h), (fun h => by cases h), (fun h => by cases h), (fun h => by cases h), (fun h => by cases h), (fun h => by cases h), (fun h => by cases h), (fun h => by cases h), (fun h => by cases h), (fun h => by cases h), (fun h => by cases h), (fun h => by cases h), (fun h => by cases h), (fun h => by cases h), (fun h => by cases h), (fun h => by cases h), (fun h => by cases h), (fun h => by cases h), (fun h => by cases h), (fun h => by cases h), (fun h => by cases h), (fun h => by cases h), (fun h => by cases h), BQ.out.drew⟩ (fun _ => rfl) ?hstep ?hdone
                case hstep =>
                  rintro ⟨b0, b1, b2, b3, b4, b5, b6, b7, b8, b9, b10, b11, b12, b13, b14, b15, b16, b17, b18, b19, b20, b21, b22, s121, s122, s123, s124, s125, s126, s127, s128, s129, s130, s131, s132, s133, s134, s135, s136, s137, s138, s139, s140, s141, s142, s143⟩ W hI i hi
                  dsimp only at hI hi ⊢
                  have HI := Lib.hid hI
                  clear hI
                  rw [Region.ready, List.mem_filter, List.mem_range] at hi
                  obtain ⟨hlt, hp⟩ := hi
                  have hi7 : i = 0 ∨ i = 1 ∨ i = 2 ∨ i = 3 ∨ i = 4 ∨ i = 5 ∨ i = 6 ∨ i = 7 ∨ i = 8 ∨ i = 9 ∨ i = 10 ∨ i = 11 ∨ i = 12 ∨ i = 13 ∨ i = 14 ∨ i = 15 ∨ i = 16 ∨ i = 17 ∨ i = 18 ∨ i = 19 ∨ i = 20 ∨ i = 21 ∨ i = 22 := by simp at hlt; omega
                  clear hlt
                  rcases hi7 with rfl | rfl | rfl | rfl | rfl | rfl | rfl | rfl | rfl | rfl | rfl | rfl | rfl | rfl | rfl | rfl | rfl | rfl | rfl | rfl | rfl | rfl | rfl
                  all_goals simp [Region.binds] at hp
                  · have hn0 : b0 = false := by revert hp; cases b0 <;> simp
                    clear hp
                    subst hn0
                    refine inv_op (o := ⟨some 121, _, _, _, _, _⟩) rfl (fun K' hK' => ?_)
                    go_simp
                    obtain ⟨h0, h1, h2, h3, h4, h5, h6, h7, h8, h9, h10, h11, h12, h13, h14, h15, h16, h17, h18, h19, h20, h21, h22, gW⟩ := HI.out
                    exact hK'.out _ _ ⟨⟨true, b1, b2, b3, b4, b5, b6, b7, b8, b9, b10, b11, b12, b13, b14, b15, b16, b17, b18, b19, b20, b21, b22, _, s122, s123, s124, s125, s126, s127, s128, s129, s130, s131, s132, s133, s134, s135, s136, s137, s138, s139, s140, s141, s142, s143⟩, rfl, rfl, (fun _ => rfl), h1, h2, h3, h4, h5, h6, h7, h8, h9, h10, h11, h12, h13, h14, h15, h16, h17, h18, h19, h20, h21, h22, gW⟩
                  · have hn1 : b1 = false := by revert hp; cases b1 <;> simp
                    clear hp
                    subst hn1
                    refine inv_op (o := ⟨some 122, _, _, _, _, _⟩) rfl (fun K' hK' => ?_)
                    go_simp
                    obtain ⟨h0, h1, h2, h3, h4, h5, h6, h7, h8, h9, h10, h11, h12, h13, h14, h15, h16, h17, h18, h19, h20, h21, h22, gW⟩ := HI.out
                    exact hK'.out _ _ ⟨⟨b0, true, b2, b3, b4, b5, b6, b7, b8, b9, b10, b11, b12, b13, b14, b15, b16, b17, b18, b19, b20, b21, b22, s121, _, s123, s124, s125, s126, s127, s128, s129, s130, s131, s132, s133, s134, s135, s136, s137, s138, s139, s140, s141, s142, s143⟩, rfl, rfl, h0, (fun _ => rfl), h2, h3, h4, h5, h6, h7, h8, h9, h10, h11, h12, h13, h14, h15, h16, h17, h18, h19, h20, h21, h22, gW⟩
                  · have hn2 : b2 = false := by revert hp; cases b2 <;> simp
                    have e0 : b0 = true := by revert hp; cases b0 <;> simp
                    have e1 : b1 = true := by revert hp; cases b1 <;> simp
                    clear hp
                    obtain rfl := (HI.out.1) e0
                    obtain rfl := (HI.out.2.1) e1
                    subst hn2
                    refine inv_op (o := ⟨some 123, _, _, _, _, _⟩) rfl (fun K' hK' => ?_)
                    go_simp
                    obtain ⟨h0, h1, h2, h3, h4, h5, h6, h7, h8, h9, h10, h11, h12, h13, h14, h15, h16, h17, h18, h19, h20, h21, h22, gW⟩ := HI.out
                    exact hK'.out _ _ ⟨⟨b0, b1, true, b3, b4, b5, b6, b7, b8, b9, b10, b11, b12, b13, b14, b15, b16, b17, b18, b19, b20, b21, b22, _, _, _, s124, s125, s126, s127, s128, s129, s130, s131, s132, s133, s134, s135, s136, s137, s138, s139, s140, s141, s142, s143⟩, rfl, rfl, h0, h1, (fun _ => rfl), h3, h4, h5, h6, h7, h8, h9, h10, h11, h12, h13, h14, h15, h16, h17, h18, h19, h20, h21, h22, gW⟩
                  · have hn3 : b3 = false := by revert hp; cases b3 <;> simp
                    have e2 : b2 = true := by revert hp; cases b2 <;> simp
                    clear hp
                    obtain rfl := (HI.out.2.2.1) e2
                    subst hn3
                    refine inv_op (o := ⟨some 124, _, _, _, _, _⟩) rfl (fun K' hK' => ?_)
                    have gW := HI.out.2.2.2.2.2.2.2.2.2.2.2.2.2.2.2.2.2.2.2.2.2.2.2
                    have hc := HCX.out W gW
                    go_simp
                    obtain ⟨h0, h1, h2, h3, h4, h5, h6, h7, h8, h9, h10, h11, h12, h13, h14, h15, h16, h17, h18, h19, h20, h21, h22, gW⟩ := HI.out
                    exact hK'.out _ _ ⟨⟨b0, b1, b2, true, b4, b5, b6, b7, b8, b9, b10, b11, b12, b13, b14, b15, b16, b17, b18, b19, b20, b21, b22, s121, s122, _, _, s125, s126, s127, s128, s129, s130, s131, s132, s133, s134, s135, s136, s137, s138, s139, s140, s141, s142, s143⟩, rfl, rfl, h0, h1, h2, (fun _ => rfl), h4, h5, h6, h7, h8, h9, h10, h11, h12, h13, h14, h15, h16, h17, h18, h19, h20, h21, h22, gW⟩
                  · have hn4 : b4 = false := by revert hp; cases b4 <;> simp
                    clear hp
                    subst hn4
                    refine inv_op (o := ⟨some 125, _, _, _, _, _⟩) rfl (fun K' hK' => ?_)
                    go_simp
                    obtain ⟨h0, h1, h2, h3, h4, h5, h6, h7, h8, h9, h10, h11, h12, h13, h14, h15, h16, h17, h18, h19, h20, h21, h22, gW⟩ := HI.out
                    exact hK'.out _ _ ⟨⟨b0, b1, b2, b3, true, b5, b6, b7, b8, b9, b10, b11, b12, b13, b14, b15, b16, b17, b18, b19, b20, b21, b22, s121, s122, s123, s124, _, s126, s127, s128, s129, s130, s131, s132, s133, s134, s135, s136, s137, s138, s139, s140, s141, s142, s143⟩, rfl, rfl, h0, h1, h2, h3, (fun _ => rfl), h5, h6, h7, h8, h9, h10, h11, h12, h13, h14, h15, h16, h17, h18, h19, h20, h21, h22, gW⟩
                  · have hn5 : b5 = false := by revert hp; cases b5 <;> simp
                    clear hp
                    subst hn5
                    refine inv_op (o := ⟨some 126, _, _, _, _, _⟩) rfl (fun K' hK' => ?_)
                    go_simp
                    obtain ⟨h0, h1, h2, h3, h4, h5, h6, h7, h8, h9, h10, h11, h12, h13, h14, h15, h16, h17, h18, h19, h20, h21, h22, gW⟩ := HI.out
                    exact hK'.out _ _ ⟨⟨b0, b1, b2, b3, b4, true, b6, b7, b8, b9, b10, b11, b12, b13, b14, b15, b16, b17, b18, b19, b20, b21, b22, s121, s122, s123, s124, s125, _, s127, s128, s129, s130, s131, s132, s133, s134, s135, s136, s137, s138, s139, s140, s141, s142, s143⟩, rfl, rfl, h0, h1, h2, h3, h4, (fun _ => rfl), h6, h7, h8, h9, h10, h11, h12, h13, h14, h15, h16, h17, h18, h19, h20, h21, h22, gW⟩
                  · have hn6 : b6 = false := by revert hp; cases b6 <;> simp
                    have e4 : b4 = true := by revert hp; cases b4 <;> simp
                    have e5 : b5 = true := by revert hp; cases b5 <;> simp
                    clear hp
                    obtain rfl := (HI.out.2.2.2.2.1) e4
                    obtain rfl := (HI.out.2.2.2.2.2.1) e5
                    subst hn6
                    refine inv_op (o := ⟨some 127, _, _, _, _, _⟩) rfl (fun K' hK' => ?_)
                    go_simp
                    obtain ⟨h0, h1, h2, h3, h4, h5, h6, h7, h8, h9, h10, h11, h12, h13, h14, h15, h16, h17, h18, h19, h20, h21, h22, gW⟩ := HI.out
                    exact hK'.out _ _ ⟨⟨b0, b1, b2, b3, b4, b5, true, b7, b8, b9, b10, b11, b12, b13, b14, b15, b16, b17, b18, b19, b20, b21, b22, s121, s122, s123, s124, _, _, _, s128, s129, s130, s131, s132, s133, s134, s135, s136, s137, s138, s139, s140, s141, s142, s143⟩, rfl, rfl, h0, h1, h2, h3, h4, h5, (fun _ => rfl), h7, h8, h9, h10, h11, h12, h13, h14, h15, h16, h17, h18, h19, h20, h21, h22, gW⟩
                  · have hn7 : b7 = false := by revert hp; cases b7 <;> simp
                    have e6 : b6 = true := by revert hp; cases b6 <;> simp
                    clear hp
                    obtain rfl := (HI.out.2.2.2.2.2.2.1) e6
                    subst hn7
                    refine inv_op (o := ⟨some 128, _, _, _, _, _⟩) rfl (fun K' hK' => ?_)
                    have gW := HI.out.2.2.2.2.2.2.2.2.2.2.2.2.2.2.2.2.2.2.2.2.2.2.2
                    have hc := HCY.out W gW
                    go_simp
                    obtain ⟨h0, h1, h2, h3, h4, h5, h6, h7, h8, h9, h10, h11, h12, h13, h14, h15, h16, h17, h18, h19, h20, h21, h22, gW⟩ := HI.out
                    exact hK'.out _ _ ⟨⟨b0, b1, b2, b3, b4, b5, b6, true, b8, b9, b10, b11, b12, b13, b14, b15, b16, b17, b18, b19, b20, b21, b22, s121, s122, s123, s124, s125, s126, _, _, s129, s130, s131, s132, s133, s134, s135, s136, s137, s138, s139, s140, s141, s142, s143⟩, rfl, rfl, h0, h1, h2, h3, h4, h5, h6, (fun _ => rfl), h8, h9, h10, h11, h12, h13, h14, h15, h16, h17, h18, h19, h20, h21, h22, gW⟩
                  · have hn8 : b8 = false := by revert hp; cases b8 <;> simp
                    have e3 : b3 = true := by revert hp; cases b3 <;> simp
                    have e7 : b7 = true := by revert hp; cases b7 <;> simp
                    clear hp
                    obtain rfl := (HI.out.2.2.2.1) e3
                    obtain rfl := (HI.out.2.2.2.2.2.2.2.1) e7
                    subst hn8
                    refine inv_op (o := ⟨some 129, _, _, _, _, _⟩) rfl (fun K' hK' => ?_)
                    have gW := HI.out.2.2.2.2.2.2.2.2.2.2.2.2.2.2.2.2.2.2.2.2.2.2.2
                    go_simp
                    refine (HBY.out W gW).mono ?_
                    rintro e w1 ⟨rfl, rfl⟩
                    obtain ⟨h0, h1, h2, h3, h4, h5, h6, h7, h8, h9, h10, h11, h12, h13, h14, h15, h16, h17, h18, h19, h20, h21, h22, gW⟩ := HI.out
                    exact hK'.out _ _ ⟨⟨b0, b1, b2, b3, b4, b5, b6, b7, true, b9, b10, b11, b12, b13, b14, b15, b16, b17, b18, b19, b20, b21, b22, s121, s122, s123, _, s125, s126, s127, _, _, s130, s131, s132, s133, s134, s135, s136, s137, s138, s139, s140, s141, s142, s143⟩, rfl, rfl, h0, h1, h2, h3, h4, h5, h6, h7, (fun _ => rfl), h9, h10, h11, h12, h13, h14, h15, h16, h17, h18, h19, h20, h21, h22, gW⟩
                  · have hn9 : b9 = false := by revert hp; cases b9 <;> simp
                    have e8 : b8 = true := by revert hp; cases b8 <;> simp
                    clear hp
                    obtain rfl := (HI.out.2.2.2.2.2.2.2.2.1) e8
                    subst hn9
                    refine inv_op (o := ⟨some 130, _, _, _, _, _⟩) rfl (fun K' hK' => ?_)
                    go_simp
                    obtain ⟨h0, h1, h2, h3, h4, h5, h6, h7, h8, h9, h10, h11, h12, h13, h14, h15, h16, h17, h18, h19, h20, h21, h22, gW⟩ := HI.out
                    exact hK'.out _ _ ⟨⟨b0, b1, b2, b3, b4, b5, b6, b7, b8, true, b10, b11, b12, b13, b14, b15, b16, b17, b18, b19, b20, b21, b22, s121, s122, s123, s124, s125, s126, s127, s128, _, _, s131, s132, s133, s134, s135, s136, s137, s138, s139, s140, s141, s142, s143⟩, rfl, rfl, h0, h1, h2, h3, h4, h5, h6, h7, h8, (fun _ => rfl), h10, h11, h12, h13, h14, h15, h16, h17, h18, h19, h20, h21, h22, gW⟩
                  · have hn10 : b10 = false := by revert hp; cases b10 <;> simp
                    have e9 : b9 = true := by revert hp; cases b9 <;> simp
                    clear hp
                    obtain rfl := (HI.out.2.2.2.2.2.2.2.2.2.1) e9
                    subst hn10
                    refine inv_op (o := ⟨some 131, _, _, _, _, _⟩) rfl (fun K' hK' => ?_)
                    go_simp
                    obtain ⟨h0, h1, h2, h3, h4, h5, h6, h7, h8, h9, h10, h11, h12, h13, h14, h15, h16, h17, h18, h19, h20, h21, h22, gW⟩ := HI.out
                    exact hK'.out _ _ ⟨⟨b0, b1, b2, b3, b4, b5, b6, b7, b8, b9, true, b11, b12, b13, b14, b15, b16, b17, b18, b19, b20, b21, b22, s121, s122, s123, s124, s125, s126, s127, s128, s129, _, _, s132, s133, s134, s135, s136, s137, s138, s139, s140, s141, s142, s143⟩, rfl, rfl, h0, h1, h2, h3, h4, h5, h6, h7, h8, h9, (fun _ => rfl), h11, h12, h13, h14, h15, h16, h17, h18, h19, h20, h21, h22, gW⟩
                  · have hn11 : b11 = false := by revert hp; cases b11 <;> simp
                    have e10 : b10 = true := by revert hp; cases b10 <;> simp
                    clear hp
                    obtain rfl := (HI.out.2.2.2.2.2.2.2.2.2.2.1) e10
                    subst hn11
                    refine inv_op (o := ⟨some 132, _, _, _, _, _⟩) rfl (fun K' hK' => ?_)
                    go_simp
                    obtain ⟨h0, h1, h2, h3, h4, h5, h6, h7, h8, h9, h10, h11, h12, h13, h14, h15, h16, h17, h18, h19, h20, h21, h22, gW⟩ := HI.out
                    exact hK'.out _ _ ⟨⟨b0, b1, b2, b3, b4, b5, b6, b7, b8, b9, b10, true, b12, b13, b14, b15, b16, b17, b18, b19, b20, b21, b22, s121, s122, s123, s124, s125, s126, s127, s128, s129, s130, _, _, s133, s134, s135, s136, s137, s138, s139, s140, s141, s142, s143⟩, rfl, rfl, h0, h1, h2, h3, h4, h5, h6, h7, h8, h9, h10, (fun _ => rfl), h12, h13, h14, h15, h16, h17, h18, h19, h20, h21, h22, gW⟩
                  · have hn12 : b12 = false := by revert hp; cases b12 <;> simp
                    have e10 : b10 = true := by revert hp; cases b10 <;> simp
                    clear hp
                    obtain rfl := (HI.out.2.2.2.2.2.2.2.2.2.2.1) e10
                    subst hn12
                    refine inv_op (o := ⟨some 133, _, _, _, _, _⟩) rfl (fun K' hK' => ?_)
                    go_simp
                    obtain ⟨h0, h1, h2, h3, h4, h5, h6, h7, h8, h9, h10, h11, h12, h13, h14, h15, h16, h17, h18, h19, h20, h21, h22, gW⟩ := HI.out
                    exact hK'.out _ _ ⟨⟨b0, b1, b2, b3, b4, b5, b6, b7, b8, b9, b10, b11, true, b13, b14, b15, b16, b17, b18, b19, b20, b21, b22, s121, s122, s123, s124, s125, s126, s127, s128, s129, s130, _, s132, _, s134, s135, s136, s137, s138, s139, s140, s141, s142, s143⟩, rfl, rfl, h0, h1, h2, h3, h4, h5, h6, h7, h8, h9, h10, h11, (fun _ => rfl), h13, h14, h15, h16, h17, h18, h19, h20, h21, h22, gW⟩
                  · have hn13 : b13 = false := by revert hp; cases b13 <;> simp
                    have e10 : b10 = true := by revert hp; cases b10 <;> simp
                    have e11 : b11 = true := by revert hp; cases b11 <;> simp
                    have e12 : b12 = true := by revert hp; cases b12 <;> simp
                    clear hp
                    obtain rfl := (HI.out.2.2.2.2.2.2.2.2.2.2.1) e10
                    obtain rfl := (HI.out.2.2.2.2.2.2.2.2.2.2.2.1) e11
                    obtain rfl := (HI.out.2.2.2.2.2.2.2.2.2.2.2.2.1) e12
                    subst hn13
                    refine inv_op (o := ⟨some 134, _, _, _, _, _⟩) rfl (fun K' hK' => ?_)
                    go_simp
                    obtain ⟨h0, h1, h2, h3, h4, h5, h6, h7, h8, h9, h10, h11, h12, h13, h14, h15, h16, h17, h18, h19, h20, h21, h22, gW⟩ := HI.out
                    exact hK'.out _ _ ⟨⟨b0, b1, b2, b3, b4, b5, b6, b7, b8, b9, b10, b11, b12, true, b14, b15, b16, b17, b18, b19, b20, b21, b22, s121, s122, s123, s124, s125, s126, s127, s128, s129, s130, _, _, _, _, s135, s136, s137, s138, s139, s140, s141, s142, s143⟩, rfl, rfl, h0, h1, h2, h3, h4, h5, h6, h7, h8, h9, h10, h11, h12, (fun _ => rfl), h14, h15, h16, h17, h18, h19, h20, h21, h22, gW⟩
                  · have hn14 : b14 = false := by revert hp; cases b14 <;> simp
                    have e10 : b10 = true := by revert hp; cases b10 <;> simp
                    have e13 : b13 = true := by revert hp; cases b13 <;> simp
                    clear hp
                    obtain rfl := (HI.out.2.2.2.2.2.2.2.2.2.2.1) e10
                    obtain rfl := (HI.out.2.2.2.2.2.2.2.2.2.2.2.2.2.1) e13
                    subst hn14
                    refine inv_op (o := ⟨some 135, _, _, _, _, _⟩) rfl (fun K' hK' => ?_)
                    have gW := HI.out.2.2.2.2.2.2.2.2.2.2.2.2.2.2.2.2.2.2.2.2.2.2.2
                    have hc := HCX.out W gW
                    go_simp
                    obtain ⟨h0, h1, h2, h3, h4, h5, h6, h7, h8, h9, h10, h11, h12, h13, h14, h15, h16, h17, h18, h19, h20, h21, h22, gW⟩ := HI.out
                    exact hK'.out _ _ ⟨⟨b0, b1, b2, b3, b4, b5, b6, b7, b8, b9, b10, b11, b12, b13, true, b15, b16, b17, b18, b19, b20, b21, b22, s121, s122, s123, s124, s125, s126, s127, s128, s129, s130, _, s132, s133, _, _, s136, s137, s138, s139, s140, s141, s142, s143⟩, rfl, rfl, h0, h1, h2, h3, h4, h5, h6, h7, h8, h9, h10, h11, h12, h13, (fun _ => rfl), h15, h16, h17, h18, h19, h20, h21, h22, gW⟩
                  · have hn15 : b15 = false := by revert hp; cases b15 <;> simp
                    have e10 : b10 = true := by revert hp; cases b10 <;> simp
                    have e14 : b14 = true := by revert hp; cases b14 <;> simp
                    clear hp
                    obtain rfl := (HI.out.2.2.2.2.2.2.2.2.2.2.1) e10
                    obtain rfl := (HI.out.2.2.2.2.2.2.2.2.2.2.2.2.2.2.1) e14
                    subst hn15
                    refine inv_op (o := ⟨some 136, _, _, _, _, _⟩) rfl (fun K' hK' => ?_)
                    have gW := HI.out.2.2.2.2.2.2.2.2.2.2.2.2.2.2.2.2.2.2.2.2.2.2.2
                    go_simp
                    refine (HOX.out W gW).mono ?_
                    rintro e w1 ⟨rfl, bn⟩
                    obtain ⟨h0, h1, h2, h3, h4, h5, h6, h7, h8, h9, h10, h11, h12, h13, h14, h15, h16, h17, h18, h19, h20, h21, h22, gW⟩ := HI.out
                    exact hK'.out _ _ ⟨⟨b0, b1, b2, b3, b4, b5, b6, b7, b8, b9, b10, b11, b12, b13, b14, true, b16, b17, b18, b19, b20, b21, b22, s121, s122, s123, s124, s125, s126, s127, s128, s129, s130, _, s132, s133, s134, _, _, s137, s138, s139, s140, s141, s142, s143⟩, rfl, rfl, h0, h1, h2, h3, h4, h5, h6, h7, h8, h9, h10, h11, h12, h13, h14, (fun _ => rfl), h16, h17, h18, h19, h20, h21, h22, (gW.trans (bn.mono gW.size))⟩
                  · have hn16 : b16 = false := by revert hp; cases b16 <;> simp
                    have e10 : b10 = true := by revert hp; cases b10 <;> simp
                    clear hp
                    obtain rfl := (HI.out.2.2.2.2.2.2.2.2.2.2.1) e10
                    subst hn16
                    refine inv_op (o := ⟨some 137, _, _, _, _, _⟩) rfl (fun K' hK' => ?_)
                    go_simp
                    obtain ⟨h0, h1, h2, h3, h4, h5, h6, h7, h8, h9, h10, h11, h12, h13, h14, h15, h16, h17, h18, h19, h20, h21, h22, gW⟩ := HI.out
                    exact hK'.out _ _ ⟨⟨b0, b1, b2, b3, b4, b5, b6, b7, b8, b9, b10, b11, b12, b13, b14, b15, true, b17, b18, b19, b20, b21, b22, s121, s122, s123, s124, s125, s126, s127, s128, s129, s130, _, s132, s133, s134, s135, s136, _, s138, s139, s140, s141, s142, s143⟩, rfl, rfl, h0, h1, h2, h3, h4, h5, h6, h7, h8, h9, h10, h11, h12, h13, h14, h15, (fun _ => rfl), h17, h18, h19, h20, h21, h22, gW⟩
                  · have hn17 : b17 = false := by revert hp; cases b17 <;> simp
                    have e10 : b10 = true := by revert hp; cases b10 <;> simp
                    clear hp
                    obtain rfl := (HI.out.2.2.2.2.2.2.2.2.2.2.1) e10
                    subst hn17
                    refine inv_op (o := ⟨some 138, _, _, _, _, _⟩) rfl (fun K' hK' => ?_)
                    go_simp
                    obtain ⟨h0, h1, h2, h3, h4, h5, h6, h7, h8, h9, h10, h11, h12, h13, h14, h15, h16, h17, h18, h19, h20, h21, h22, gW⟩ := HI.out
                    exact hK'.out _ _ ⟨⟨b0, b1, b2, b3, b4, b5, b6, b7, b8, b9, b10, b11, b12, b13, b14, b15, b16, true, b18, b19, b20, b21, b22, s121, s122, s123, s124, s125, s126, s127, s128, s129, s130, _, s132, s133, s134, s135, s136, s137, _, s139, s140, s141, s142, s143⟩, rfl, rfl, h0, h1, h2, h3, h4, h5, h6, h7, h8, h9, h10, h11, h12, h13, h14, h15, h16, (fun _ => rfl), h18, h19, h20, h21, h22, gW⟩
                  · have hn18 : b18 = false := by revert hp; cases b18 <;> simp
                    have e10 : b10 = true := by revert hp; cases b10 <;> simp
                    have e16 : b16 = true := by revert hp; cases b16 <;> simp
                    have e17 : b17 = true := by revert hp; cases b17 <;> simp
                    clear hp
                    obtain rfl := (HI.out.2.2.2.2.2.2.2.2.2.2.1) e10
                    obtain rfl := (HI.out.2.2.2.2.2.2.2.2.2.2.2.2.2.2.2.2.1) e16
                    obtain rfl := (HI.out.2.2.2.2.2.2.2.2.2.2.2.2.2.2.2.2.2.1) e17
                    subst hn18
                    refine inv_op (o := ⟨some 139, _, _, _, _, _⟩) rfl (fun K' hK' => ?_)
                    go_simp
                    obtain ⟨h0, h1, h2, h3, h4, h5, h6, h7, h8, h9, h10, h11, h12, h13, h14, h15, h16, h17, h18, h19, h20, h21, h22, gW⟩ := HI.out
                    exact hK'.out _ _ ⟨⟨b0, b1, b2, b3, b4, b5, b6, b7, b8, b9, b10, b11, b12, b13, b14, b15, b16, b17, true, b19, b20, b21, b22, s121, s122, s123, s124, s125, s126, s127, s128, s129, s130, _, s132, s133, s134, s135, s136, _, _, _, s140, s141, s142, s143⟩, rfl, rfl, h0, h1, h2, h3, h4, h5, h6, h7, h8, h9, h10, h11, h12, h13, h14, h15, h16, h17, (fun _ => rfl), h19, h20, h21, h22, gW⟩
                  · have hn19 : b19 = false := by revert hp; cases b19 <;> simp
                    have e10 : b10 = true := by revert hp; cases b10 <;> simp
                    have e18 : b18 = true := by revert hp; cases b18 <;> simp
                    clear hp
                    obtain rfl := (HI.out.2.2.2.2.2.2.2.2.2.2.1) e10
                    obtain rfl := (HI.out.2.2.2.2.2.2.2.2.2.2.2.2.2.2.2.2.2.2.1) e18
                    subst hn19
                    refine inv_op (o := ⟨some 140, _, _, _, _, _⟩) rfl (fun K' hK' => ?_)
                    have gW := HI.out.2.2.2.2.2.2.2.2.2.2.2.2.2.2.2.2.2.2.2.2.2.2.2
                    have hc := HCY.out W gW
                    go_simp
                    obtain ⟨h0, h1, h2, h3, h4, h5, h6, h7, h8, h9, h10, h11, h12, h13, h14, h15, h16, h17, h18, h19, h20, h21, h22, gW⟩ := HI.out
                    exact hK'.out _ _ ⟨⟨b0, b1, b2, b3, b4, b5, b6, b7, b8, b9, b10, b11, b12, b13, b14, b15, b16, b17, b18, true, b20, b21, b22, s121, s122, s123, s124, s125, s126, s127, s128, s129, s130, _, s132, s133, s134, s135, s136, s137, s138, _, _, s141, s142, s143⟩, rfl, rfl, h0, h1, h2, h3, h4, h5, h6, h7, h8, h9, h10, h11, h12, h13, h14, h15, h16, h17, h18, (fun _ => rfl), h20, h21, h22, gW⟩
                  · have hn20 : b20 = false := by revert hp; cases b20 <;> simp
                    have e10 : b10 = true := by revert hp; cases b10 <;> simp
                    have e19 : b19 = true := by revert hp; cases b19 <;> simp
                    clear hp
                    obtain rfl := (HI.out.2.2.2.2.2.2.2.2.2.2.1) e10
                    obtain rfl := (HI.out.2.2.2.2.2.2.2.2.2.2.2.2.2.2.2.2.2.2.2.1) e19
                    subst hn20
                    refine inv_op (o := ⟨some 141, _, _, _, _, _⟩) rfl (fun K' hK' => ?_)
                    have gW := HI.out.2.2.2.2.2.2.2.2.2.2.2.2.2.2.2.2.2.2.2.2.2.2.2
                    go_simp
                    refine (HOY.out W gW).mono ?_
                    rintro e w1 ⟨rfl, bn⟩
                    obtain ⟨h0, h1, h2, h3, h4, h5, h6, h7, h8, h9, h10, h11, h12, h13, h14, h15, h16, h17, h18, h19, h20, h21, h22, gW⟩ := HI.out
                    exact hK'.out _ _ ⟨⟨b0, b1, b2, b3, b4, b5, b6, b7, b8, b9, b10, b11, b12, b13, b14, b15, b16, b17, b18, b19, true, b21, b22, s121, s122, s123, s124, s125, s126, s127, s128, s129, s130, _, s132, s133, s134, s135, s136, s137, s138, s139, _, _, s142, s143⟩, rfl, rfl, h0, h1, h2, h3, h4, h5, h6, h7, h8, h9, h10, h11, h12, h13, h14, h15, h16, h17, h18, h19, (fun _ => rfl), h21, h22, (gW.trans (bn.mono gW.size))⟩
                  · have hn21 : b21 = false := by revert hp; cases b21 <;> simp
                    have e10 : b10 = true := by revert hp; cases b10 <;> simp
                    have e15 : b15 = true := by revert hp; cases b15 <;> simp
                    have e20 : b20 = true := by revert hp; cases b20 <;> simp
                    clear hp
                    obtain rfl := (HI.out.2.2.2.2.2.2.2.2.2.2.1) e10
                    obtain rfl := (HI.out.2.2.2.2.2.2.2.2.2.2.2.2.2.2.2.1) e15
                    obtain rfl := (HI.out.2.2.2.2.2.2.2.2.2.2.2.2.2.2.2.2.2.2.2.2.1) e20
                    subst hn21
                    refine inv_op (o := ⟨some 142, _, _, _, _, _⟩) rfl (fun K' hK' => ?_)
                    have hq := HES.out W
                    go_simp
                    obtain ⟨h0, h1, h2, h3, h4, h5, h6, h7, h8, h9, h10, h11, h12, h13, h14, h15, h16, h17, h18, h19, h20, h21, h22, gW⟩ := HI.out
                    exact hK'.out _ _ ⟨⟨b0, b1, b2, b3, b4, b5, b6, b7, b8, b9, b10, b11, b12, b13, b14, b15, b16, b17, b18, b19, b20, true, b22, s121, s122, s123, s124, s125, s126, s127, s128, s129, s130, _, s132, s133, s134, s135, _, s137, s138, s139, s140, _, _, s143⟩, rfl, rfl, h0, h1, h2, h3, h4, h5, h6, h7, h8, h9, h10, h11, h12, h13, h14, h15, h16, h17, h18, h19, h20, (fun _ => rfl), h22, gW⟩
                  · have hn22 : b22 = false := by revert hp; cases b22 <;> simp
                    have e10 : b10 = true := by revert hp; cases b10 <;> simp
                    have e21 : b21 = true := by revert hp; cases b21 <;> simp
                    clear hp
                    obtain rfl := (HI.out.2.2.2.2.2.2.2.2.2.2.1) e10
                    obtain rfl := (HI.out.2.2.2.2.2.2.2.2.2.2.2.2.2.2.2.2.2.2.2.2.2.1) e21
                    subst hn22
                    refine inv_op (o := ⟨some 143, _, _, _, _, _⟩) rfl (fun K' hK' => ?_)
                    go_simp
                    obtain ⟨h0, h1, h2, h3, h4, h5, h6, h7, h8, h9, h10, h11, h12, h13, h14, h15, h16, h17, h18, h19, h20, h21, h22, gW⟩ := HI.out
                    exact hK'.out _ _ ⟨⟨b0, b1, b2, b3, b4, b5, b6, b7, b8, b9, b10, b11, b12, b13, b14, b15, b16, b17, b18, b19, b20, b21, true, s121, s122, s123, s124, s125, s126, s127, s128, s129, s130, _, s132, s133, s134, s135, s136, s137, s138, s139, s140, s141, _, _⟩, rfl, rfl, h0, h1, h2, h3, h4, h5, h6, h7, h8, h9, h10, h11, h12, h13, h14, h15, h16, h17, h18, h19, h20, h21, (fun _ => rfl), gW⟩
                case hdone =>
                  rintro ⟨b0, b1, b2, b3, b4, b5, b6, b7, b8, b9, b10, b11, b12, b13, b14, b15, b16, b17, b18, b19, b20, b21, b22, s121, s122, s123, s124, s125, s126, s127, s128, s129, s130, s131, s132, s133, s134, s135, s136, s137, s138, s139, s140, s141, s142, s143⟩ W hI hall
                  dsimp only at hI hall ⊢
                  have HI := Lib.hid hI
                  clear hI
                  obtain rfl : b22 = true := hall 22 (by decide)
                  obtain rfl := (HI.out.2.2.2.2.2.2.2.2.2.2.2.2.2.2.2.2.2.2.2.2.2.2.1) rfl
                  have gW := HI.out.2.2.2.2.2.2.2.2.2.2.2.2.2.2.2.2.2.2.2.2.2.2.2
                  clear HI hall
                  have GW := Lib.hid gW
                  clear gW
                  rcases Bool.eq_false_or_eq_true EQ with hs | hs
                  · subst hs
                    have HH2 := Lib.hid (heads_any _ (HLW.out _ GW.out))
                    go_wp2_with fail
                    refine HH2.out.mono ?_
                    rintro e w1 ⟨rfl, hb⟩
                    have HF := Lib.hid (HBE.out w1 (GW.out.trans (hb.mono GW.out.size)))
                    clear hb
                    go_wp2_with fail
                    go_ret
                    rw [← HBB.out]
                    exact ⟨rfl, HF.out⟩
                  · have hjj := HEQ2.out hs
                    subst hs
                    go_wp2_with fail
                    refine ⟨⟨j + 1, by omega, by go_num, GW.out⟩, ?_⟩
                    simp [RowKit.intOf]
                    omega
        · rw [decide_eq_false hpq2] at heq
          have hs : SM = false := by
            cases hc : SM with
            | false => rfl
            | true => exact absurd (by rw [hPL, hQL]; exact sames_true _ _ _ _ _ (by rw [← hSM, hc])) hpq2
          subst hs
          clear hSM hPL hQL hPV hQV hp32 hq32 hpq2
          go_wp2_with (first | (refine wpList_load_row rfl 33 _ rfl bp rfl 33 PV (0, 0) _ HP.out und32 rfl (info32.trans HPZ.out) ?_) | (refine wpList_load_row rfl 33 _ rfl bq rfl 33 QV (0, 0) _ HQ.out und32 rfl (info32.trans HQZ.out) ?_))
          refine HHD.out.mono ?_
          rintro e w1 ⟨rfl, hb⟩
          have HF := Lib.hid (HBE.out w1 hb)
          clear hb
          go_wp2_with fail
          go_ret
          rw [← HBB.out]
          exact ⟨rfl, HF.out⟩
theorem shaChain_law (w : World) (hL : Laid w) (va : Value) (na : Nat) (Va : Nat → Value) (Za : Nat → List UInt8) (ha : IsRows w va na Va Za) (vb : Value) (nb : Nat) (Vb : Nat → Value) (Zb : Nat → List UInt8) (hb : IsRows w vb nb Vb Zb) (C : List UInt8) (hC : C.length = 32) (D : List UInt8) (hD : D.length = 32) :
    Calls Tryd.prog 6 #[va, vb, .agg (byteCells C).toArray, .agg (byteCells D).toArray] w fun e w' => e = .returned (.bool true) ∧ Below w.heap.size w w' := by
  by_cases ho : 8 < na ∨ nb < na
  · exact shaChain_out w hL va na Va Za ha vb nb Vb Zb hb _ _ ho
  · exact shaChain_in w hL va na Va Za ha vb nb Vb Zb hb C hC D hD (by omega) (by omega)
end Go.Proofs.YtfaiblngchdpmaaDoor
