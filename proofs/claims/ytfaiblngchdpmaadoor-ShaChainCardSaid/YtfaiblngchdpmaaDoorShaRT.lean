/- What the document's own Turn answers, for every state and block. -/
import Derived.Test.YtfaiblngchdpmaaDoorShaRW
import Derived.Test.YtfaiblngchdpmaaDoorShaO
namespace Go.Proofs.YtfaiblngchdpmaaDoor
open Go.RowKit Go.Lib

theorem eight_over {w : World} {g : Nat} {t : TypeId} {o0 o1 o2 o3 o4 o5 o6 o7 : Value} (h : w.heap[g]? = some (.cells #[o0, o1, o2, o3, o4, o5, o6, o7] t (0, 0))) (a b c d e f g' i : Value) :
    ((((((((w.setCell ⟨g, 0, none⟩ a).setCell ⟨g, 1, none⟩ b).setCell ⟨g, 2, none⟩ c).setCell ⟨g, 3, none⟩ d).setCell ⟨g, 4, none⟩ e).setCell ⟨g, 5, none⟩ f).setCell ⟨g, 6, none⟩ g').setCell ⟨g, 7, none⟩ i).heap[g]? = some (.cells #[a, b, c, d, e, f, g', i] t (0, 0)) := by
  simp [World.setCell, Array.getElem?_modify, h]
theorem eight_other {w : World} {g k : Nat} (hk : k ≠ g) (a b c d e f g' i : Value) :
    ((((((((w.setCell ⟨g, 0, none⟩ a).setCell ⟨g, 1, none⟩ b).setCell ⟨g, 2, none⟩ c).setCell ⟨g, 3, none⟩ d).setCell ⟨g, 4, none⟩ e).setCell ⟨g, 5, none⟩ f).setCell ⟨g, 6, none⟩ g').setCell ⟨g, 7, none⟩ i).heap[k]? = w.heap[k]? := by
  rw [heap_setCell_other _ _ _ _ hk, heap_setCell_other _ _ _ _ hk, heap_setCell_other _ _ _ _ hk, heap_setCell_other _ _ _ _ hk, heap_setCell_other _ _ _ _ hk, heap_setCell_other _ _ _ _ hk, heap_setCell_other _ _ _ _ hk, heap_setCell_other _ _ _ _ hk]
/-- The rounds' state when j words of the state before have been added. -/
def addRowV (v h : List Nat) (j : Nat) : List Nat := (addAll v h).take j ++ v.drop j
theorem addRowV_zero (v h : List Nat) : addRowV v h 0 = v := by simp [addRowV]
theorem addRowV_all (v h : List Nat) (hv : v.length = 8) (hh : h.length = 8) : addRowV v h 8 = addAll v h := by
  have h1 := addAll_length v h hv hh
  unfold addRowV
  rw [List.take_of_length_le (by omega), List.drop_of_length_le (by omega), List.append_nil]
theorem addRowV_at (v h : List Nat) (j : Nat) (hv : v.length = 8) (hh : h.length = 8) (hj : j < 8) : (u32s (addRowV v h j))[j]? = some (.int .u32 (v.getD j 0 : Nat)) := by
  have h1 := addAll_length v h hv hh
  have h2 : ((addAll v h).take j).length = j := by simp [h1]; omega
  have h3 : (addRowV v h j)[j]? = some (v.getD j 0) := by
    unfold addRowV
    rw [List.getElem?_append_right (by omega), h2, Nat.sub_self, List.getElem?_drop, Nat.add_zero]
    simp [hv, hj]
  simp [u32s, h3]
theorem addRowV_set (v h : List Nat) (j : Nat) (hv : v.length = 8) (hh : h.length = 8) (hj : j < 8) : (u32s (addRowV v h j)).set j (.int .u32 (((v.getD j 0 + h.getD j 0) % 4294967296 : Nat) : Int)) = u32s (addRowV v h (j + 1)) := by
  have h1 := addAll_length v h hv hh
  have h2 : ((addAll v h).take j).length = j := by simp [h1]; omega
  have h4 : (addAll v h)[j]? = some ((v.getD j 0 + h.getD j 0) % 4294967296) := by
    unfold addAll
    rw [List.getElem?_zipWith]
    simp [hv, hh, hj, m32]
  unfold u32s addRowV
  rw [← List.map_set, List.take_add_one, h4, List.set_append_right _ _ (by omega), h2, Nat.sub_self, List.drop_eq_getElem_cons (by omega), List.set_cons_zero, Option.toList_some, List.append_assoc]
  rfl
theorem ptr_kept {b : Bool} {s : Value} {L : Nat} {t : TypeId} {C : Array Value} {W W' : World} (hb : Below W.heap.size W W') (h : b = true → ∃ g, s = .pointer (some ⟨g, 0, none⟩) ∧ L ≤ g ∧ W.heap[g]? = some (.cells C t (0, 0))) :
    b = true → ∃ g, s = .pointer (some ⟨g, 0, none⟩) ∧ L ≤ g ∧ W'.heap[g]? = some (.cells C t (0, 0)) := fun hb1 => by
  obtain ⟨g, e1, e2, e3⟩ := h hb1
  exact ⟨g, e1, e2, (hb.block _ (Array.getElem?_eq_some_iff.1 e3).1).trans e3⟩
theorem ptr_new {s : Value} {L : Nat} {t : TypeId} {C : Array Value} {W : World} (h : ∃ g, s = .pointer (some ⟨g, 0, none⟩) ∧ L ≤ g ∧ W.heap[g]? = some (.cells C t (0, 0))) : (.pointer (some ⟨W.heap.size, 0, none⟩) : Value) ≠ s := fun e => by
  obtain ⟨g, e1, _, e3⟩ := h
  subst e1
  cases e
  have := (Array.getElem?_eq_some_iff.1 e3).1
  omega
theorem ptr_other {s : Value} {L g0 : Nat} {t : TypeId} {C D : Array Value} {W : World} (h : ∃ g, s = .pointer (some ⟨g, 0, none⟩) ∧ L ≤ g ∧ W.heap[g]? = some (.cells C t (0, 0))) (hne : (.pointer (some ⟨g0, 0, none⟩) : Value) ≠ s) :
    ∃ g, s = .pointer (some ⟨g, 0, none⟩) ∧ L ≤ g ∧ (W.setRow g0 D).heap[g]? = some (.cells C t (0, 0)) := by
  obtain ⟨g, e1, e2, e3⟩ := h
  exact ⟨g, e1, e2, (setRow_other _ _ _ _ (fun e => hne (by rw [e1, e]))).trans e3⟩
theorem ptr_type {s : Value} {L g0 : Nat} {t t' : TypeId} {C D : Array Value} {W : World} (h0 : W.heap[g0]? = some (.cells D t' (0, 0))) (h : ∃ g, s = .pointer (some ⟨g, 0, none⟩) ∧ L ≤ g ∧ W.heap[g]? = some (.cells C t (0, 0))) (hne : t' ≠ t) : (.pointer (some ⟨g0, 0, none⟩) : Value) ≠ s := fun e => by
  obtain ⟨g, e1, _, e3⟩ := h
  subst e1
  cases e
  exact hne (block_type h0 e3)
set_option maxHeartbeats 2000000 in
set_option maxRecDepth 100000 in
theorem refTurn_other (a : Option Addr) (n c : Nat) (h : List Nat) (h8 : h.length = 8) (hn : n ≠ 64) (w : World) :
    Calls Tryd.prog 11 #[.agg (u32s h).toArray, .slice a n c] w fun z w' => z = .returned (.agg (u32s h).toArray) ∧ Below w.heap.size w w' := by
  have hne : ((n : Int) != 64) = true := by rw [bne_iff_ne]; omega
  clear hn
  obtain ⟨H, hH⟩ : ∃ H, H = (u32s h).toArray := ⟨_, rfl⟩
  have hs : (some 8 : Option Nat) = some H.size := by rw [hH]; simp [h8]
  have hz : zero8.size = H.size := by rw [hH]; simp [h8]; rfl
  have h1 : H.all (·.oneCell') = true := by rw [hH]; exact u32s_one _
  rw [← hH]
  have HS := Lib.hid hs
  have HZ := Lib.hid hz
  have H1 := Lib.hid h1
  clear hH hs hz h1
  go_enter Tryd.func11, Tryd.ntmps11
  go_upto_region 1 with fail
  rw [show (#[.int .u32 0, .int .u32 0, .int .u32 0, .int .u32 0, .int .u32 0, .int .u32 0, .int .u32 0, .int .u32 0] : Array Value) = zero8 from rfl]
  go_wp2_with (first | (refine wpList_load_row rfl 23 _ rfl w.heap.size rfl 23 H (0, 0) _ (heap_alloc2_old w _ _) und8x32 rfl (info8x32.trans HS.out) ?_) | (refine wpList_store_row rfl 23 _ _ rfl (w.heap.size + 1) H rfl rfl 23 zero8 (heap_alloc2_new w _ _) (info8x32.trans HS.out) HZ.out H1.out ?_))
  refine bodyPost_ret (results_cell_row rfl _ _ (w.heap.size + 1) 23 _ (0, 0) _ rfl (setRow_heap _ _ _ _ _ _ (heap_alloc2_new w _ _)) und8x32 rfl (info8x32.trans HS.out)) rfl ⟨rfl, ?_⟩
  exact below_setRow (((Below.refl _ _).alloc (Nat.le_refl _) _).alloc (by simp) _) (by omega) _

structure RefTurnX where
  b0 : Bool
  b1 : Bool
  b2 : Bool
  b3 : Bool
  b4 : Bool
  b5 : Bool
  b6 : Bool
  b7 : Bool
  b8 : Bool
  b9 : Bool
  s18 : Value
  s19 : Value
  s20 : Value
  s21 : Value
  s5 : Value
  s6 : Value
  s7 : Value
set_option maxHeartbeats 4000000 in
set_option maxRecDepth 100000 in
theorem refTurn_this (v : Value) (l : List UInt8) (h : List Nat) (h8 : h.length = 8) (h32 : All32 h) (w : World) (hv : IsBytes w v l) (hl : l.length = 64) :
    Calls Tryd.prog 11 #[.agg (u32s h).toArray, v] w fun z w' => z = .returned (.agg (u32s (turnOf h l)).toArray) ∧ Below w.heap.size w w' := by
  obtain ⟨a, c, rfl⟩ := hv.shape
  rw [hl]
  rw [hl] at hv
  obtain ⟨H, hH⟩ : ∃ H, H = (u32s h).toArray := ⟨_, rfl⟩
  have hs : (some 8 : Option Nat) = some H.size := by rw [hH]; simp [h8]
  have hz : zero8.size = H.size := by rw [hH]; simp [h8]; rfl
  have h1 : H.all (·.oneCell') = true := by rw [hH]; exact u32s_one _
  rw [← hH]
  have HV := Lib.hid hv
  have HH := Lib.hid hH
  have HS := Lib.hid hs
  have HZ := Lib.hid hz
  have H1 := Lib.hid h1
  clear hH hs hz h1 hv
  go_enter Tryd.func11, Tryd.ntmps11
  go_upto_region 1 with fail
  rw [show (#[.int .u32 0, .int .u32 0, .int .u32 0, .int .u32 0, .int .u32 0, .int .u32 0, .int .u32 0, .int .u32 0] : Array Value) = zero8 from rfl]
  go_upto_region 3 with fail
  obtain ⟨W0, hW0⟩ : ∃ W0, W0 = (w.alloc (.cells H 23)).alloc (.cells zero8 23) := ⟨_, rfl⟩
  obtain ⟨B, hB⟩ : ∃ B, B = w.heap.size := ⟨_, rfl⟩
  have hsz : W0.heap.size = B + 2 := by rw [hW0, hB]; simp
  have hb0 : Below B w W0 := by rw [hW0, hB]; exact ((Below.refl _ _).alloc (Nat.le_refl _) _).alloc (by simp) _
  have hg0 : W0.heap[B]? = some (.cells H 23 (0, 0)) := by rw [hW0, hB]; exact heap_alloc2_old w _ _
  have hg1 : W0.heap[B + 1]? = some (.cells zero8 23 (0, 0)) := by rw [hW0, hB]; exact heap_alloc2_new w _ _
  rw [← hW0, ← hB]
  obtain ⟨K, hK⟩ : ∃ K, K = (u32s (wTo l 64)).toArray := ⟨_, rfl⟩
  obtain ⟨KT, hKT⟩ : ∃ K, K = (u32s kTab).toArray := ⟨_, rfl⟩
  have HKT := Lib.hid (show (some 64 : Option Nat) = some KT.size ∧ zero64.size = KT.size ∧ KT.all (·.oneCell') = true from ⟨by rw [hKT]; rfl, by rw [hKT]; rfl, by rw [hKT]; exact u32s_one _⟩)
  have hkk := fun W => refK_any W
  rw [← hKT] at hkk
  have HKK := Lib.hid hkk
  have HKTd := Lib.hid hKT
  clear hkk hKT
  have hwd : ∀ W, Below (B + 2) W0 W → Calls Tryd.prog 9 #[.slice a 64 c] W fun z w' => z = .returned (.agg K) ∧ Below W.heap.size W w' := fun W hb => by
    rw [hK]
    exact refWords_this _ l W ((HV.out.below (by rw [← hB]; exact hb0)).below (by rw [hsz]; exact hb)) hl
  have HWD := Lib.hid hwd
  have HK64 := Lib.hid (show (some 64 : Option Nat) = some K.size ∧ zero64.size = K.size ∧ K.all (·.oneCell') = true from ⟨by rw [hK]; simp [wTo_length], by rw [hK, zero64_size]; simp [wTo_length], by rw [hK]; exact u32s_one _⟩)
  have HB0 := Lib.hid hb0
  have HG0 := Lib.hid hg0
  have HG1 := Lib.hid hg1
  have HK := Lib.hid hK
  have HBw := Lib.hid hB
  have HLN := Lib.hid hl
  clear hW0 hb0 hg0 hg1 hwd hK hB hl
  refine wp_region_rec (X := RefTurnX) (by kernel_rfl) (by kernel_rfl) (fun x => #[x.b0, x.b1, x.b2, x.b3, x.b4, x.b5, x.b6, x.b7, x.b8, x.b9]) (fun x => { tmps := #[.agg H, .slice a 64 c, .pointer (some ⟨B, 0, none⟩), undef, .pointer (some ⟨B + 1, 0, none⟩), x.s5, x.s6, x.s7, undef, undef, undef, undef, undef, undef, .slice a 64 c, .int .i64 64, .bool false, undef, x.s18, x.s19, x.s20, x.s21, undef, undef, undef, undef, undef, undef, undef, undef, undef, undef, undef, undef, undef, undef, undef, undef, undef, undef, undef, undef, undef, undef, undef, undef, undef, undef, undef, undef, undef, undef, undef, undef, undef, undef, undef, undef, undef, undef, undef, undef, undef, undef, undef, undef, undef, undef, undef, undef, undef, undef, undef, undef, undef, undef, undef, undef, undef, undef, undef, undef, undef, undef, undef, undef, undef, undef, undef, undef, undef, undef, undef, undef, undef, undef, undef, undef, undef, undef, undef, undef, undef, undef, undef, undef, undef, undef, undef, undef, undef, undef, undef, undef, undef, undef, undef, undef, undef, undef, undef, undef, undef, undef, undef, undef], defers := [] }) (fun x W => (x.b0 = true → x.s18 = .slice a 64 c) ∧ (x.b1 = true → x.s19 = .agg K) ∧ (x.b2 = true → x.s20 = .agg KT) ∧ (x.b3 = true → x.s21 = .agg H) ∧ (x.b7 = true → x.b4 = true) ∧ (x.b8 = true → x.b5 = true) ∧ (x.b9 = true → x.b6 = true) ∧ (x.b4 = true → ∃ g, x.s5 = .pointer (some ⟨g, 0, none⟩) ∧ B + 2 ≤ g ∧ W.heap[g]? = some (.cells (if x.b7 then K else zero64) 26 (0, 0))) ∧ (x.b5 = true → ∃ g, x.s6 = .pointer (some ⟨g, 0, none⟩) ∧ B + 2 ≤ g ∧ W.heap[g]? = some (.cells (if x.b8 then KT else zero64) 26 (0, 0))) ∧ (x.b6 = true → ∃ g, x.s7 = .pointer (some ⟨g, 0, none⟩) ∧ B + 2 ≤ g ∧ W.heap[g]? = some (.cells (if x.b9 then H else zero8) 23 (0, 0))) ∧ (x.b4 = true → x.b5 = true → x.s5 ≠ x.s6) ∧ (B + 2 ≤ W.heap.size) ∧ (Below (B + 2) W0 W)) ⟨false, false, false, false, false, false, false, false, false, false, undef, undef, undef, undef, undef, undef, undef⟩ rfl rfl ⟨(fun h => by cases h), (fun h => by cases h), (fun h => by cases h), (fun h => by cases h), (fun h => by cases h), (fun h => by cases h), (fun h => by cases h), (fun h => by cases h), (fun h => by cases h), (fun h => by cases h), (fun h => by cases h), (by show B + 2 ≤ W0.heap.size; omega), (Below.refl _ _).drew⟩ (fun _ => rfl) ?hstep ?hdone
  case hstep =>
    rintro ⟨b0, b1, b2, b3, b4, b5, b6, b7, b8, b9, s18, s19, s20, s21, s5, s6, s7⟩ W hI i hi
    dsimp only at hI hi ⊢
    have HI := Lib.hid hI
    clear hI
    rw [Region.ready, List.mem_filter, List.mem_range] at hi
    obtain ⟨hlt, hp⟩ := hi
    have hi7 : i = 0 ∨ i = 1 ∨ i = 2 ∨ i = 3 ∨ i = 4 ∨ i = 5 ∨ i = 6 ∨ i = 7 ∨ i = 8 ∨ i = 9 := by simp at hlt; omega
    clear hlt
    rcases hi7 with rfl | rfl | rfl | rfl | rfl | rfl | rfl | rfl | rfl | rfl
    all_goals simp [Region.binds] at hp
    · have hn0 : b0 = false := by revert hp; cases b0 <;> simp
      clear hp
      subst hn0
      refine inv_op (o := ⟨some 18, _, _, _, _, _⟩) rfl (fun K' hK' => ?_)
      go_simp
      obtain ⟨h0, h1, h2, h3, d7, d8, d9, g5f, g6f, g7f, gne, gS, gW⟩ := HI.out
      exact hK'.out _ _ ⟨⟨true, b1, b2, b3, b4, b5, b6, b7, b8, b9, _, s19, s20, s21, s5, s6, s7⟩, rfl, rfl, (fun _ => rfl), h1, h2, h3, d7, d8, d9, g5f, g6f, g7f, gne, gS, gW⟩
    · have hn1 : b1 = false := by revert hp; cases b1 <;> simp
      have e0 : b0 = true := by revert hp; cases b0 <;> simp
      clear hp
      obtain rfl := (HI.out.1) e0
      subst hn1
      refine inv_op (o := ⟨some 19, _, _, _, _, _⟩) rfl (fun K' hK' => ?_)
      have gW := HI.out.2.2.2.2.2.2.2.2.2.2.2.2
      go_simp
      refine (HWD.out W gW).mono ?_
      rintro e w1 ⟨rfl, bn⟩
      obtain ⟨h0, h1, h2, h3, d7, d8, d9, g5f, g6f, g7f, gne, gS, gW⟩ := HI.out
      exact hK'.out _ _ ⟨⟨b0, true, b2, b3, b4, b5, b6, b7, b8, b9, _, _, s20, s21, s5, s6, s7⟩, rfl, rfl, h0, (fun _ => rfl), h2, h3, d7, d8, d9, (ptr_kept bn g5f), (ptr_kept bn g6f), (ptr_kept bn g7f), gne, (Nat.le_trans gS bn.size), (gW.trans (bn.mono gS))⟩
    · have hn2 : b2 = false := by revert hp; cases b2 <;> simp
      have e1 : b1 = true := by revert hp; cases b1 <;> simp
      clear hp
      subst hn2
      refine inv_op (o := ⟨some 20, _, _, _, _, _⟩) rfl (fun K' hK' => ?_)
      go_simp
      refine (HKK.out W).mono ?_
      rintro e w1 ⟨rfl, bn⟩
      obtain ⟨h0, h1, h2, h3, d7, d8, d9, g5f, g6f, g7f, gne, gS, gW⟩ := HI.out
      exact hK'.out _ _ ⟨⟨b0, b1, true, b3, b4, b5, b6, b7, b8, b9, s18, s19, _, s21, s5, s6, s7⟩, rfl, rfl, h0, h1, (fun _ => rfl), h3, d7, d8, d9, (ptr_kept bn g5f), (ptr_kept bn g6f), (ptr_kept bn g7f), gne, (Nat.le_trans gS bn.size), (gW.trans (bn.mono gS))⟩
    · have hn3 : b3 = false := by revert hp; cases b3 <;> simp
      clear hp
      subst hn3
      refine inv_op (o := ⟨some 21, _, _, _, _, _⟩) rfl (fun K' hK' => ?_)
      have gW := HI.out.2.2.2.2.2.2.2.2.2.2.2.2
      rw [if_pos (by kernel_rfl)]
      refine wp_load_row 23 _ rfl B rfl 23 H (0, 0) _ ((gW.block B (by omega)).trans HG0.out) und8x32 rfl (info8x32.trans HS.out) ?_
      obtain ⟨h0, h1, h2, h3, d7, d8, d9, g5f, g6f, g7f, gne, gS, gW⟩ := HI.out
      exact hK'.out _ _ ⟨⟨b0, b1, b2, true, b4, b5, b6, b7, b8, b9, s18, s19, s20, _, s5, s6, s7⟩, rfl, rfl, h0, h1, h2, (fun _ => rfl), d7, d8, d9, g5f, g6f, g7f, gne, gS, gW⟩
    · have hn4 : b4 = false := by revert hp; cases b4 <;> simp
      clear hp
      subst hn4
      refine inv_op (o := ⟨some 5, _, _, _, _, _⟩) rfl (fun K' hK' => ?_)
      have d7 := HI.out.2.2.2.2.1
      have b7f : b7 = false := by cases b7 with | false => rfl | true => exact absurd (d7 rfl) (by simp)
      subst b7f
      go_simp
      rw [← zero64_lit]
      have bn : Below W.heap.size W (W.alloc (.cells zero64 26)) := (Below.refl _ _).alloc (Nat.le_refl _) _
      obtain ⟨h0, h1, h2, h3, d7, d8, d9, g5f, g6f, g7f, gne, gS, gW⟩ := HI.out
      exact hK'.out _ _ ⟨⟨b0, b1, b2, b3, true, b5, b6, false, b8, b9, s18, s19, s20, s21, _, s6, s7⟩, rfl, rfl, h0, h1, h2, h3, (fun h => by cases h), d8, d9, (fun _ => ⟨W.heap.size, rfl, gS, heap_alloc_new W _⟩), (ptr_kept bn g6f), (ptr_kept bn g7f), (fun _ h5 => ptr_new (g6f h5)), (Nat.le_trans gS bn.size), (gW.trans (bn.mono gS))⟩
    · have hn5 : b5 = false := by revert hp; cases b5 <;> simp
      clear hp
      subst hn5
      refine inv_op (o := ⟨some 6, _, _, _, _, _⟩) rfl (fun K' hK' => ?_)
      have d8 := HI.out.2.2.2.2.2.1
      have b8f : b8 = false := by cases b8 with | false => rfl | true => exact absurd (d8 rfl) (by simp)
      subst b8f
      go_simp
      rw [← zero64_lit]
      have bn : Below W.heap.size W (W.alloc (.cells zero64 26)) := (Below.refl _ _).alloc (Nat.le_refl _) _
      obtain ⟨h0, h1, h2, h3, d7, d8, d9, g5f, g6f, g7f, gne, gS, gW⟩ := HI.out
      exact hK'.out _ _ ⟨⟨b0, b1, b2, b3, b4, true, b6, b7, false, b9, s18, s19, s20, s21, s5, _, s7⟩, rfl, rfl, h0, h1, h2, h3, d7, (fun h => by cases h), d9, (ptr_kept bn g5f), (fun _ => ⟨W.heap.size, rfl, gS, heap_alloc_new W _⟩), (ptr_kept bn g7f), (fun h4 _ => Ne.symm (ptr_new (g5f h4))), (Nat.le_trans gS bn.size), (gW.trans (bn.mono gS))⟩
    · have hn6 : b6 = false := by revert hp; cases b6 <;> simp
      clear hp
      subst hn6
      refine inv_op (o := ⟨some 7, _, _, _, _, _⟩) rfl (fun K' hK' => ?_)
      have d9 := HI.out.2.2.2.2.2.2.1
      have b9f : b9 = false := by cases b9 with | false => rfl | true => exact absurd (d9 rfl) (by simp)
      subst b9f
      go_simp
      have bn : Below W.heap.size W (W.alloc (.cells zero8 23)) := (Below.refl _ _).alloc (Nat.le_refl _) _
      obtain ⟨h0, h1, h2, h3, d7, d8, d9, g5f, g6f, g7f, gne, gS, gW⟩ := HI.out
      exact hK'.out _ _ ⟨⟨b0, b1, b2, b3, b4, b5, true, b7, b8, false, s18, s19, s20, s21, s5, s6, _⟩, rfl, rfl, h0, h1, h2, h3, d7, d8, (fun h => by cases h), (ptr_kept bn g5f), (ptr_kept bn g6f), (fun _ => ⟨W.heap.size, rfl, gS, heap_alloc_new W _⟩), gne, (Nat.le_trans gS bn.size), (gW.trans (bn.mono gS))⟩
    · have hn7 : b7 = false := by revert hp; cases b7 <;> simp
      have e1 : b1 = true := by revert hp; cases b1 <;> simp
      have e4 : b4 = true := by revert hp; cases b4 <;> simp
      clear hp
      obtain rfl := (HI.out.2.1) e1
      subst hn7
      refine inv_op (o := ⟨none, _, _, _, _, _⟩) rfl (fun K' hK' => ?_)
      have g5f := HI.out.2.2.2.2.2.2.2.1
      obtain ⟨g, rfl, hg2, hgh⟩ := g5f e4
      rw [if_pos (by kernel_rfl)]
      refine wp_store_row 26 _ _ rfl g K rfl rfl 26 zero64 hgh (info64x32.trans HK64.out.1) HK64.out.2.1 HK64.out.2.2 ?_
      obtain ⟨h0, h1, h2, h3, d7, d8, d9, g5f, g6f, g7f, gne, gS, gW⟩ := HI.out
      exact hK'.out _ _ ⟨⟨b0, b1, b2, b3, b4, b5, b6, true, b8, b9, s18, _, s20, s21, _, s6, s7⟩, rfl, rfl, h0, h1, h2, h3, (fun _ => e4), d8, d9, (fun _ => ⟨g, rfl, hg2, setRow_heap _ _ _ _ _ _ hgh⟩), (fun h5 => ptr_other (g6f h5) (gne e4 h5)), (fun h6 => ptr_other (g7f h6) (ptr_type hgh (g7f h6) (by decide))), gne, (by rw [setRow_size]; exact gS), (below_setRow gW hg2 _)⟩
    · have hn8 : b8 = false := by revert hp; cases b8 <;> simp
      have e2 : b2 = true := by revert hp; cases b2 <;> simp
      have e5 : b5 = true := by revert hp; cases b5 <;> simp
      clear hp
      obtain rfl := (HI.out.2.2.1) e2
      subst hn8
      refine inv_op (o := ⟨none, _, _, _, _, _⟩) rfl (fun K' hK' => ?_)
      have g6f := HI.out.2.2.2.2.2.2.2.2.1
      obtain ⟨g, rfl, hg2, hgh⟩ := g6f e5
      rw [if_pos (by kernel_rfl)]
      refine wp_store_row 26 _ _ rfl g KT rfl rfl 26 zero64 hgh (info64x32.trans HKT.out.1) HKT.out.2.1 HKT.out.2.2 ?_
      obtain ⟨h0, h1, h2, h3, d7, d8, d9, g5f, g6f, g7f, gne, gS, gW⟩ := HI.out
      exact hK'.out _ _ ⟨⟨b0, b1, b2, b3, b4, b5, b6, b7, true, b9, s18, s19, _, s21, s5, _, s7⟩, rfl, rfl, h0, h1, h2, h3, d7, (fun _ => e5), d9, (fun h4 => ptr_other (g5f h4) (Ne.symm (gne h4 e5))), (fun _ => ⟨g, rfl, hg2, setRow_heap _ _ _ _ _ _ hgh⟩), (fun h6 => ptr_other (g7f h6) (ptr_type hgh (g7f h6) (by decide))), gne, (by rw [setRow_size]; exact gS), (below_setRow gW hg2 _)⟩
    · have hn9 : b9 = false := by revert hp; cases b9 <;> simp
      have e3 : b3 = true := by revert hp; cases b3 <;> simp
      have e6 : b6 = true := by revert hp; cases b6 <;> simp
      clear hp
      obtain rfl := (HI.out.2.2.2.1) e3
      subst hn9
      refine inv_op (o := ⟨none, _, _, _, _, _⟩) rfl (fun K' hK' => ?_)
      have g7f := HI.out.2.2.2.2.2.2.2.2.2.1
      obtain ⟨g, rfl, hg2, hgh⟩ := g7f e6
      rw [if_pos (by kernel_rfl)]
      refine wp_store_row 23 _ _ rfl g H rfl rfl 23 zero8 hgh (info8x32.trans HS.out) HZ.out H1.out ?_
      obtain ⟨h0, h1, h2, h3, d7, d8, d9, g5f, g6f, g7f, gne, gS, gW⟩ := HI.out
      exact hK'.out _ _ ⟨⟨b0, b1, b2, b3, b4, b5, b6, b7, b8, true, s18, s19, s20, _, s5, s6, _⟩, rfl, rfl, h0, h1, h2, h3, d7, d8, (fun _ => e6), (fun h4 => ptr_other (g5f h4) (ptr_type hgh (g5f h4) (by decide))), (fun h5 => ptr_other (g6f h5) (ptr_type hgh (g6f h5) (by decide))), (fun _ => ⟨g, rfl, hg2, setRow_heap _ _ _ _ _ _ hgh⟩), gne, (by rw [setRow_size]; exact gS), (below_setRow gW hg2 _)⟩
  case hdone =>
    rintro ⟨b0, b1, b2, b3, b4, b5, b6, b7, b8, b9, s18, s19, s20, s21, s5, s6, s7⟩ W hI hall
    dsimp only at hI hall ⊢
    have HI := Lib.hid hI
    clear hI
    obtain rfl : b4 = true := hall 4 (by decide)
    obtain rfl : b5 = true := hall 5 (by decide)
    obtain rfl : b6 = true := hall 6 (by decide)
    obtain rfl : b7 = true := hall 7 (by decide)
    obtain rfl : b8 = true := hall 8 (by decide)
    obtain rfl : b9 = true := hall 9 (by decide)
    have g5f := HI.out.2.2.2.2.2.2.2.1
    have g6f := HI.out.2.2.2.2.2.2.2.2.1
    have g7f := HI.out.2.2.2.2.2.2.2.2.2.1
    have gne := HI.out.2.2.2.2.2.2.2.2.2.2.1
    have gS := HI.out.2.2.2.2.2.2.2.2.2.2.2.1
    have gW := HI.out.2.2.2.2.2.2.2.2.2.2.2.2
    clear HI hall
    obtain ⟨g5, rfl, hg5, hh5⟩ := g5f rfl
    obtain ⟨g6, rfl, hg6, hh6⟩ := g6f rfl
    obtain ⟨g7, rfl, hg7, hh7⟩ := g7f rfl
    have h57 : g5 ≠ g7 := fun e => by
      subst e
      exact absurd (block_type hh5 hh7) (by decide)
    have h67 : g6 ≠ g7 := fun e => by
      subst e
      exact absurd (block_type hh6 hh7) (by decide)
    rw [if_pos rfl] at hh5 hh6 hh7
    rw [HH.out] at hh7
    have HH5 := Lib.hid hh5
    have HH6 := Lib.hid hh6
    have HH7 := Lib.hid hh7
    have HHB := Lib.hid ((gW.block B (by omega)).trans HG0.out)
    have HHR := Lib.hid ((gW.block (B + 1) (by omega)).trans HG1.out)
    have HBW := Lib.hid (HB0.out.trans (gW.mono (by omega)))
    clear g5f g6f g7f gne hh5 hh6 hh7 gW HB0 HG0 HG1 HWD hsz
    go_wp2_with fail
    go_loopw [8, 9, 10, 11, 12] (fun c x9 x10 x11 x12 wr => ∃ i : Nat, i ≤ 64 ∧ c = .int .i64 i ∧ wr.heap[g7]? = some (.cells (u32s (roundsTo h (wTo l 64) i)).toArray 23 (0, 0)) ∧ wr.heap[g5]? = some (.cells K 26 (0, 0)) ∧ wr.heap[g6]? = some (.cells KT 26 (0, 0)) ∧
      wr.heap[B]? = some (.cells H 23 (0, 0)) ∧ wr.heap[B + 1]? = some (.cells zero8 23 (0, 0)) ∧ Below B w wr) (fun c _ _ _ _ _ => 64 - (intOf c).toNat)
    case atStart => exact ⟨0, by omega, rfl, HH7.out, HH5.out, HH6.out, HHB.out, HHR.out, HBW.out⟩
    case round =>
      obtain ⟨i, hi, rfl, hr7, hr5, hr6, hrB, hrR, hbw⟩ := hrel
      have R5 := Lib.hid hr5
      have R6 := Lib.hid hr6
      have RB := Lib.hid hrB
      have RR := Lib.hid hrR
      have RW := Lib.hid hbw
      by_cases hlt : i < 64
      · obtain ⟨v, hv⟩ : ∃ v, v = roundsTo h (wTo l 64) i := ⟨_, rfl⟩
        obtain ⟨kk, hkk⟩ : ∃ k, k = kTab.getD i 0 := ⟨_, rfl⟩
        obtain ⟨xx, hxx⟩ : ∃ x, x = (wTo l 64).getD i 0 := ⟨_, rfl⟩
        have hvn : roundN v kk xx = roundsTo h (wTo l 64) (i + 1) := by rw [hv, hkk, hxx]; rfl
        have hv8 : v.length = 8 := by rw [hv]; exact roundsTo_length _ _ h8 _
        have hv32 : All32 v := by rw [hv]; exact roundsTo_32 _ _ h32 _
        rw [← hv] at hr7
        obtain ⟨va, vb, vc, vd, ve, vf, vg, vh, hve⟩ := eight_of hv8
        rw [hve] at hr7 hv32 hvn
        have R7 : Hid (wr.heap[g7]? = some (.cells #[.int .u32 va, .int .u32 vb, .int .u32 vc, .int .u32 vd, .int .u32 ve, .int .u32 vf, .int .u32 vg, .int .u32 vh] 23 (0, 0))) := Lib.hid hr7
        have k0 : wr.cell? ⟨g7, 0, none⟩ = some (.int .u32 va) := cell_of_row _ _ 0 _ _ _ R7.out
        have k1 : wr.cell? ⟨g7, 1, none⟩ = some (.int .u32 vb) := cell_of_row _ _ 1 _ _ _ R7.out
        have k2 : wr.cell? ⟨g7, 2, none⟩ = some (.int .u32 vc) := cell_of_row _ _ 2 _ _ _ R7.out
        have k3 : wr.cell? ⟨g7, 3, none⟩ = some (.int .u32 vd) := cell_of_row _ _ 3 _ _ _ R7.out
        have k4 : wr.cell? ⟨g7, 4, none⟩ = some (.int .u32 ve) := cell_of_row _ _ 4 _ _ _ R7.out
        have k5 : wr.cell? ⟨g7, 5, none⟩ = some (.int .u32 vf) := cell_of_row _ _ 5 _ _ _ R7.out
        have k6 : wr.cell? ⟨g7, 6, none⟩ = some (.int .u32 vg) := cell_of_row _ _ 6 _ _ _ R7.out
        have k7 : wr.cell? ⟨g7, 7, none⟩ = some (.int .u32 vh) := cell_of_row _ _ 7 _ _ _ R7.out
        have f0 : wr.frozen? ⟨g7, 0, none⟩ = false := frozen_of_row _ _ 0 _ _ R7.out
        have f1 : wr.frozen? ⟨g7, 1, none⟩ = false := frozen_of_row _ _ 1 _ _ R7.out
        have f2 : wr.frozen? ⟨g7, 2, none⟩ = false := frozen_of_row _ _ 2 _ _ R7.out
        have f3 : wr.frozen? ⟨g7, 3, none⟩ = false := frozen_of_row _ _ 3 _ _ R7.out
        have f4 : wr.frozen? ⟨g7, 4, none⟩ = false := frozen_of_row _ _ 4 _ _ R7.out
        have f5 : wr.frozen? ⟨g7, 5, none⟩ = false := frozen_of_row _ _ 5 _ _ R7.out
        have f6 : wr.frozen? ⟨g7, 6, none⟩ = false := frozen_of_row _ _ 6 _ _ R7.out
        have f7 : wr.frozen? ⟨g7, 7, none⟩ = false := frozen_of_row _ _ 7 _ _ R7.out
        have ck : wr.cell? ⟨g6, i, none⟩ = some (.int .u32 (kk : Nat)) := by
          rw [HKTd.out] at hr6
          have hk : kTab.length = 64 := by decide +kernel
          exact row_at hr6 (by rw [hkk]; simp [u32s, hk, hlt])
        have cx : wr.cell? ⟨g5, i, none⟩ = some (.int .u32 (xx : Nat)) := by
          rw [HK.out] at hr5
          exact row_at hr5 (by rw [hxx]; simp [u32s, wTo_length, hlt])
        have ba : va < 4294967296 := hv32 va (by simp)
        have bb : vb < 4294967296 := hv32 vb (by simp)
        have bc : vc < 4294967296 := hv32 vc (by simp)
        have be : ve < 4294967296 := hv32 ve (by simp)
        have bf : vf < 4294967296 := hv32 vf (by simp)
        have bg : vg < 4294967296 := hv32 vg (by simp)
        have m1 := la1_32 ve be
        have m2 := la0_32 va ba
        have m3 := ch_32 ve vf vg be bf bg
        have m4 := ma_32 va vb vc ba bb bc
        obtain ⟨t, ht⟩ : ∃ t, t = (vh + la1 ve + chN ve vf vg + kk + xx) % 4294967296 := ⟨_, rfl⟩
        obtain ⟨u, hu⟩ : ∃ u, u = (la0 va + maN va vb vc) % 4294967296 := ⟨_, rfl⟩
        have HR := Lib.hid (show roundsTo h (wTo l 64) (i + 1) = [(t + u) % 4294967296, va, vb, vc, (vd + t) % 4294967296, ve, vf, vg] by
          rw [← hvn, ht, hu]
          rfl)
        have HE := Lib.hid (show ((vh : Int) + ((la1 ve : Nat) : Int) + ((chN ve vf vg : Nat) : Int) + (kk : Int) + (xx : Int) + (((la0 va : Nat) : Int) + ((maN va vb vc : Nat) : Int))) % 4294967296 = (((t + u) % 4294967296 : Nat) : Int) ∧ ((vd : Int) + ((vh : Int) + ((la1 ve : Nat) : Int) + ((chN ve vf vg : Nat) : Int) + (kk : Int) + (xx : Int))) % 4294967296 = (((vd + t) % 4294967296 : Nat) : Int) by omega)
        clear hr5 hr6 hr7 hrB hrR hbw hv hkk hxx hvn hv8 hv32 hve ht hu
        go_wp2_with fail
        go_quiet ((go_at_call 22; refine Calls.quiet_of_same ((refRot_any _ _ (by assumption) (by decide) (by decide) _).mono (fun e w2 h => ⟨h.1, h.2.symm⟩))))
        go_wp2_with fail
        go_quiet (fail)
        go_wp2_with fail
        generalize hq : World.drewN wr _ = wq
        have hcq : ∀ x, wq.cell? x = wr.cell? x := fun x => by rw [← hq]; rfl
        have hfq : ∀ x, wq.frozen? x = wr.frozen? x := fun x => by rw [← hq]; rfl
        have HQ := Lib.hid hq
        rw [← hcq] at k0 k1 k2 k3 k4 k5 k6 k7 ck cx
        rw [← hfq] at f0 f1 f2 f3 f4 f5 f6 f7
        clear hcq hfq hq
        go_quiet ((go_at_call 22; refine Calls.quiet_of_same ((refRot_any _ _ (by assumption) (by decide) (by decide) _).mono (fun e w2 h => ⟨h.1, h.2.symm⟩))))
        go_wp2_with fail
        go_roundw
        case rel =>
          have hwq : wq.heap = wr.heap := by rw [← HQ.out]; rfl
          have hrow : (World.drewN wq nq).heap[g7]? = some (.cells #[.int .u32 va, .int .u32 vb, .int .u32 vc, .int .u32 vd, .int .u32 ve, .int .u32 vf, .int .u32 vg, .int .u32 vh] 23 (0, 0)) := by
            show wq.heap[g7]? = _
            rw [hwq]
            exact R7.out
          have hold : ∀ (k : Nat) (o : Obj), wr.heap[k]? = some o → (World.drewN wq nq).heap[k]? = some o := fun k o hk => by
            show wq.heap[k]? = _
            rw [hwq]
            exact hk
          refine ⟨i + 1, by omega, by go_num, ?_, (eight_other h57 _ _ _ _ _ _ _ _).trans (hold _ _ R5.out), (eight_other h67 _ _ _ _ _ _ _ _).trans (hold _ _ R6.out), (eight_other (by omega) _ _ _ _ _ _ _ _).trans (hold _ _ RB.out), (eight_other (by omega) _ _ _ _ _ _ _ _).trans (hold _ _ RR.out), eight_below (below_drewN ?_ _) (by omega) _ _ _ _ _ _ _ _⟩
          · rw [HR.out]
            refine (eight_over hrow _ _ _ _ _ _ _ _).trans ?_
            rw [HE.out.1, HE.out.2]
            rfl
          · rw [← HQ.out]
            exact below_drewN RW.out _
        case measure => simp [intOf]; omega
      · obtain rfl : i = 64 := by omega
        obtain ⟨v, hv⟩ : ∃ v, v = roundsTo h (wTo l 64) 64 := ⟨_, rfl⟩
        have hv8 : v.length = 8 := by rw [hv]; exact roundsTo_length _ _ h8 _
        rw [← hv] at hr7
        have HT := Lib.hid (show turnOf h l = addAll v h by unfold turnOf; rw [if_pos HLN.out, hv])
        have HV8 := Lib.hid hv8
        have HH8 := Lib.hid h8
        have R7 := Lib.hid (show wr.heap[g7]? = some (.cells (u32s (addRowV v h 0)).toArray 23 (0, 0)) by rw [addRowV_zero]; exact hr7)
        rw [HH.out] at hrB
        have RB2 := Lib.hid hrB
        clear hr5 hr6 hr7 hrB hrR hbw hv hv8 RB
        go_wp2_with fail
        go_loopw [13] (fun c wr => ∃ j : Nat, j ≤ 8 ∧ c = .int .i64 j ∧ wr.heap[g7]? = some (.cells (u32s (addRowV v h j)).toArray 23 (0, 0)) ∧
          wr.heap[B]? = some (.cells (u32s h).toArray 23 (0, 0)) ∧ wr.heap[B + 1]? = some (.cells zero8 23 (0, 0)) ∧ Below B w wr) (fun c _ => 8 - (intOf c).toNat)
        case atStart => exact ⟨0, by omega, rfl, R7.out, RB2.out, RR.out, RW.out⟩
        case round =>
          obtain ⟨j, hj, rfl, hs7, hsB, hsR, hsW⟩ := hrel
          have S7 := Lib.hid hs7
          have SB := Lib.hid hsB
          have SR := Lib.hid hsR
          have SW := Lib.hid hsW
          clear hs7 hsB hsR hsW R7 RB2 RR RW R5 R6
          by_cases hjt : j < 8
          · obtain ⟨x, hx⟩ : ∃ x, x = h.getD j 0 := ⟨_, rfl⟩
            obtain ⟨y, hy⟩ : ∃ y, y = v.getD j 0 := ⟨_, rfl⟩
            have c1 : wr.cell? ⟨g7, j, none⟩ = some (.int .u32 (y : Nat)) := by rw [hy]; exact row_at S7.out (addRowV_at v h j HV8.out HH8.out hjt)
            have c2 : wr.cell? ⟨B, j, none⟩ = some (.int .u32 (x : Nat)) := by rw [hx]; exact row_at SB.out (by have := HH8.out; simp [u32s, this, hjt])
            have f1 : wr.frozen? ⟨g7, j, none⟩ = false := row_free S7.out
            have HX := Lib.hid (addRowV_set v h j HV8.out HH8.out hjt)
            rw [← hx, ← hy] at HX
            clear hx hy
            go_wp2_with fail
            go_region
            go_wp2
            go_roundw
            case rel =>
              have hxy : ((y : Int) + (x : Int)) % 4294967296 = (((y + x) % 4294967296 : Nat) : Int) := by omega
              refine ⟨j + 1, by omega, by go_num, ?_, ?_, ?_, (SW.out.setCell (by simp; omega) _).drew⟩
              · rw [← HX.out, hxy]
                exact row_set S7.out _
              · exact (heap_setCell_other wr _ _ _ (by simp; omega)).trans SB.out
              · exact (heap_setCell_other wr _ _ _ (by simp; omega)).trans SR.out
            case measure => simp [intOf]; omega
          · obtain rfl : j = 8 := by omega
            have h8a := addAll_length v h HV8.out HH8.out
            have HA := Lib.hid (show (some 8 : Option Nat) = some (u32s (addAll v h)).toArray.size ∧ zero8.size = (u32s (addAll v h)).toArray.size from ⟨by simp [h8a], by simp [h8a]; rfl⟩)
            have sb := S7.out
            rw [addRowV_all v h HV8.out HH8.out] at sb
            have SB2 := Lib.hid sb
            clear sb S7
            go_wp2_with (first | (refine wpList_load_row rfl 23 _ rfl g7 rfl 23 (u32s (addAll v h)).toArray (0, 0) _ SB2.out und8x32 rfl (info8x32.trans HA.out.1) ?_) | (refine wpList_store_row rfl 23 _ _ rfl (B + 1) (u32s (addAll v h)).toArray rfl rfl 23 zero8 SR.out (info8x32.trans HA.out.1) HA.out.2 (u32s_one _) ?_))
            refine bodyPost_ret (results_cell_row rfl _ _ (B + 1) 23 _ (0, 0) _ rfl (setRow_heap _ _ _ _ _ _ SR.out) und8x32 rfl (info8x32.trans HA.out.1)) rfl ⟨by rw [HT.out], ?_⟩
            rw [← HBw.out]
            exact below_setRow SW.out (by omega) _
end Go.Proofs.YtfaiblngchdpmaaDoor
