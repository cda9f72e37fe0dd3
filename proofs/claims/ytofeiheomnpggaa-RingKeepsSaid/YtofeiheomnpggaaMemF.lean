/- What mem.PutNum and the document's own answer; what was there stays. -/
import Derived.Test.YtofeiheomnpggaaMemE
import Derived.Test.YtofeiheomnpggaaInv
namespace Go.Proofs.Ytofeiheomnpggaa
open Go.RowKit Go.Lib

theorem one_cell {W : World} {g : Nat} {v : Value} {t : TypeId} (h : W.heap[g]? = some (.cells #[v] t (0, 0))) : W.cell? ⟨g, 0, none⟩ = some v ∧ W.frozen? ⟨g, 0, none⟩ = false := by
  refine ⟨?_, ?_⟩
  · unfold World.cell?; rw [h]; rfl
  · unfold World.frozen?; rw [h]; rfl
theorem one_set {W : World} {g : Nat} {v : Value} {t : TypeId} {fr : Nat × Nat} (h : W.heap[g]? = some (.cells #[v] t fr)) (r : Value) : (W.setCell ⟨g, 0, none⟩ r).heap[g]? = some (.cells #[r] t fr) := by
  simp [World.setCell, Array.getElem?_modify, h]
theorem one_other {W : World} {g : Nat} {o : Obj} (h : W.heap[g]? = some o) (a : Addr) (r : Value) (hne : a.block ≠ g) : (W.setCell a r).heap[g]? = some o := by
  simp [World.setCell, Array.getElem?_modify, hne, h]
theorem second_row {w w1 : World} {u v : Value} {s t : TypeId} (hb : Below ((w.alloc (.cells #[u] s)).alloc (.cells #[v] t)).heap.size ((w.alloc (.cells #[u] s)).alloc (.cells #[v] t)) w1) :
    w1.heap[w.heap.size]? = some (.cells #[u] s) ∧ w1.heap[w.heap.size + 1]? = some (.cells #[v] t) := by
  have h0 := hb.block w.heap.size (by simp; omega)
  have h1 := hb.block (w.heap.size + 1) (by simp)
  have h2 : ((w.alloc (.cells #[u] s)).alloc (.cells #[v] t)).heap[w.heap.size + 1]? = some (.cells #[v] t) := by simpa using heap_alloc_new (w.alloc (.cells #[u] s)) (.cells #[v] t)
  have h3 : ((w.alloc (.cells #[u] s)).alloc (.cells #[v] t)).heap[w.heap.size]? = some (.cells #[u] s) := by
    rw [heap_alloc_old (w.alloc (.cells #[u] s)) _ (by simp)]
    exact heap_alloc_new w _
  exact ⟨h0.trans h3, h1.trans h2⟩

structure PutNumX where
  b0 : Bool
  b1 : Bool
  b2 : Bool
  b3 : Bool
  b4 : Bool
  b5 : Bool
  b6 : Bool
  b7 : Bool
  b8 : Bool
  b9 : Bool
  s19 : Value
  s20 : Value
  s21 : Value
  s22 : Value
  s23 : Value
  s24 : Value
  s25 : Value
  s26 : Value
  s9 : Value
set_option maxHeartbeats 4000000 in
set_option maxRecDepth 100000 in
theorem putNum_in (v : Value) (l : List UInt8) (w : World) (hv : IsArg w v l) (z : Int) (k n : Nat) (hk0 : 1 ≤ k) (hk8 : k ≤ 8) (hl : l.length ≤ 8192) :
    Calls Try.prog 58 #[.agg #[v], .int .i64 z, .int .i64 k, .int .u64 n] w fun e w' => ∃ r, e = .returned (.tuple #[.agg #[r], .int .i64 (faultOf l.length z k)]) ∧ Given w' w.heap.size v l r (putOf l z (leB n k)) ∧ Below w.heap.size w w' := by
  obtain ⟨a, c, hsh, _⟩ := hv.shape
  obtain ⟨N, hN⟩ : ∃ N, N = l.length := ⟨_, rfl⟩
  obtain ⟨F, hF⟩ : ∃ F, F = faultOf l.length z k := ⟨_, rfl⟩
  obtain ⟨G, hG⟩ : ∃ G, G = putOf l z (leB n k) := ⟨_, rfl⟩
  obtain ⟨B, hB⟩ : ∃ B, B = w.heap.size := ⟨_, rfl⟩
  rw [← hF, ← hG]
  rw [← hN] at hsh
  subst hsh
  have HV := Lib.hid hv
  have HLE := Lib.hid (show ∀ W, Calls Try.prog 69 #[.int .u64 n, .int .i64 k] W fun e w' => ∃ u, e = .returned u ∧ IsArg w' u (leB n k) ∧ Below W.heap.size W w' from
    fun W => (le_any n k k (clamped_of k hk8) W).mono fun e w' ⟨u, h1, h2, h3⟩ => ⟨u, h1, isArg_of_owns (l := leB n k) (by rw [leB_length]; exact h2), h3⟩)
  have HPUT := Lib.hid (show ∀ W, Below B w W → B + 2 ≤ W.heap.size → ∀ u, IsArg W u (leB n k) → Calls Try.prog 68 #[.agg #[.slice a N c], .int .i64 z, u] W fun e w' => ∃ r, e = .returned (.tuple #[.agg #[r], .int .i64 F]) ∧ Given w' (B + 2) (.slice a N c) l r G ∧ Below W.heap.size W w' from
    fun W hb hz u hu => (put_any _ l u (leB n k) W (hv.below (by rw [← hB]; exact hb)) hu z (by omega) (by rw [leB_length]; omega)).mono fun e w' ⟨r, h1, h2, h3⟩ => by
      rw [leB_length, ← hF] at h1
      rw [← hG] at h2
      exact ⟨r, h1, .inr (ownsRow_base h2 hz), h3⟩)
  have HBA := Lib.hid (((Below.refl w.heap.size w).alloc (Nat.le_refl _) (.cells #[.slice a N c] 28)).alloc (by simp) (.cells #[.slice none 0 0] 28))
  have HB := Lib.hid hB
  have HNL := Lib.hid (show N ≤ maxLen by unfold maxLen; omega)
  have HN := Lib.hid hN
  have HFF := Lib.hid hF
  have HGG := Lib.hid hG
  have HS := Lib.hid (show sizeFaultOf N k = 0 from by unfold sizeFaultOf; rw [if_pos (by omega), if_pos (by omega)])
  clear hv hl hN hF hG hk0 hk8 hB
  go_enter Try.func58, Try.ntmps58
  go_wp2_with fail
  refine (sizeFault_any _ _ _ HNL.out _ _).mono ?_
  rintro e W0 ⟨rfl, hb⟩
  rw [HS.out]
  have hrow := second_row hb
  have HW := Lib.hid (show Below B w W0 by rw [HB.out]; exact HBA.out.trans (hb.mono (by simp; omega)))
  have HZ := Lib.hid (show B + 2 ≤ W0.heap.size by have := hb.size; simp at this; rw [HB.out]; omega)
  rw [← HB.out] at hrow
  have HE := Lib.hid hrow.1
  have HN2 := Lib.hid hrow.2
  clear hb hrow
  go_upto_region 4 with fail
  rw [← HB.out]
  refine wp_region_rec (X := PutNumX) (by kernel_rfl) (by kernel_rfl) (fun x => #[x.b0, x.b1, x.b2, x.b3, x.b4, x.b5, x.b6, x.b7, x.b8, x.b9]) (fun x => { tmps := #[.agg #[.slice a N c], .int .i64 z, .int .i64 k, .int .u64 n, .pointer (some ⟨B, 0, none⟩), undef, undef, undef, .pointer (some ⟨B + 1, 0, none⟩), x.s9, .int .i64 0, .agg #[.slice a N c], .int .i64 k, .int .i64 0, .int .i64 0, .bool false, undef, undef, undef, x.s19, x.s20, x.s21, x.s22, x.s23, x.s24, x.s25, x.s26], defers := [] }) (fun x W => (x.b0 = true → x.s19 = .agg #[.slice a N c]) ∧ (x.b1 = true → x.s20 = .int .i64 z) ∧ (x.b2 = true → x.s21 = .int .u64 n) ∧ (x.b3 = true → x.s22 = .int .i64 k) ∧ (x.b7 = true → x.s26 = .int .i64 F) ∧ (x.b9 = true → x.s9 = .int .i64 F) ∧ (x.b5 = false → x.b4 = true → IsArg W x.s23 (leB n k)) ∧ (x.b5 = true → ∃ r, x.s24 = .tuple #[.agg #[r], .int .i64 F] ∧ Given W (B + 2) (.slice a N c) l r G) ∧ (x.b6 = true → ∃ r, x.s25 = .agg #[r] ∧ Given W (B + 2) (.slice a N c) l r G) ∧ (W.heap[B]? = some (.cells #[.slice a N c] 28 (0, 0))) ∧ (x.b8 = false → W.heap[B + 1]? = some (.cells #[.slice none 0 0] 28 (0, 0))) ∧ (x.b8 = true → ∃ r, W.heap[B + 1]? = some (.cells #[r] 28 (0, 0)) ∧ Given W (B + 2) (.slice a N c) l r G) ∧ (Below B w W) ∧ (B + 2 ≤ W.heap.size)) ⟨false, false, false, false, false, false, false, false, false, false, undef, undef, undef, undef, undef, undef, undef, undef, .int .i64 0⟩ rfl rfl ⟨(fun h => by cases h), (fun h => by cases h), (fun h => by cases h), (fun h => by cases h), (fun h => by cases h), (fun h => by cases h), (fun _ h => by cases h), (fun h => by cases h), (fun h => by cases h), HE.out, (fun _ => HN2.out), (fun h => by cases h), HW.out.drew, HZ.out⟩ (fun _ => rfl) ?hstep ?hdone
  case hstep =>
    rintro ⟨b0, b1, b2, b3, b4, b5, b6, b7, b8, b9, s19, s20, s21, s22, s23, s24, s25, s26, s9⟩ W hI i hi
    dsimp only at hI hi ⊢
    have HI := Lib.hid hI
    clear hI
    rw [Region.ready, List.mem_filter, List.mem_range] at hi
    obtain ⟨hlt, hp⟩ := hi
    have hi7 : i = 0 ∨ i = 1 ∨ i = 2 ∨ i = 3 ∨ i = 4 ∨ i = 5 ∨ i = 6 ∨ i = 7 ∨ i = 8 ∨ i = 9 := by simp at hlt; omega
    clear hlt
    rcases hi7 with rfl | rfl | rfl | rfl | rfl | rfl | rfl | rfl | rfl | rfl
    all_goals simp [Region.binds] at hp
    · have hn0 : b0 = false := by revert hp; cases b0 <;> simp
      clear hp
      subst hn0
      refine inv_op (o := ⟨some 19, _, _, _, _, _⟩) rfl (fun K' hK' => ?_)
      have gE := HI.out.2.2.2.2.2.2.2.2.2.1
      obtain ⟨hc1, hc2⟩ := one_cell gE
      go_simp
      obtain ⟨h0, h1, h2, h3, h7, h9, gL, gT, gR, gE, gN, gS, gW, gZ⟩ := HI.out
      exact hK'.out _ _ ⟨⟨true, b1, b2, b3, b4, b5, b6, b7, b8, b9, _, s20, s21, s22, s23, s24, s25, s26, s9⟩, rfl, rfl, (fun _ => rfl), h1, h2, h3, h7, h9, gL, gT, gR, gE, gN, gS, gW, gZ⟩
    · have hn1 : b1 = false := by revert hp; cases b1 <;> simp
      clear hp
      subst hn1
      refine inv_op (o := ⟨some 20, _, _, _, _, _⟩) rfl (fun K' hK' => ?_)
      go_simp
      obtain ⟨h0, h1, h2, h3, h7, h9, gL, gT, gR, gE, gN, gS, gW, gZ⟩ := HI.out
      exact hK'.out _ _ ⟨⟨b0, true, b2, b3, b4, b5, b6, b7, b8, b9, s19, _, s21, s22, s23, s24, s25, s26, s9⟩, rfl, rfl, h0, (fun _ => rfl), h2, h3, h7, h9, gL, gT, gR, gE, gN, gS, gW, gZ⟩
    · have hn2 : b2 = false := by revert hp; cases b2 <;> simp
      clear hp
      subst hn2
      refine inv_op (o := ⟨some 21, _, _, _, _, _⟩) rfl (fun K' hK' => ?_)
      go_simp
      obtain ⟨h0, h1, h2, h3, h7, h9, gL, gT, gR, gE, gN, gS, gW, gZ⟩ := HI.out
      exact hK'.out _ _ ⟨⟨b0, b1, true, b3, b4, b5, b6, b7, b8, b9, s19, s20, _, s22, s23, s24, s25, s26, s9⟩, rfl, rfl, h0, h1, (fun _ => rfl), h3, h7, h9, gL, gT, gR, gE, gN, gS, gW, gZ⟩
    · have hn3 : b3 = false := by revert hp; cases b3 <;> simp
      clear hp
      subst hn3
      refine inv_op (o := ⟨some 22, _, _, _, _, _⟩) rfl (fun K' hK' => ?_)
      go_simp
      obtain ⟨h0, h1, h2, h3, h7, h9, gL, gT, gR, gE, gN, gS, gW, gZ⟩ := HI.out
      exact hK'.out _ _ ⟨⟨b0, b1, b2, true, b4, b5, b6, b7, b8, b9, s19, s20, s21, _, s23, s24, s25, s26, s9⟩, rfl, rfl, h0, h1, h2, (fun _ => rfl), h7, h9, gL, gT, gR, gE, gN, gS, gW, gZ⟩
    · have hn4 : b4 = false := by revert hp; cases b4 <;> simp
      have e2 : b2 = true := by revert hp; cases b2 <;> simp
      have e3 : b3 = true := by revert hp; cases b3 <;> simp
      clear hp
      obtain rfl := (HI.out.2.2.1) e2
      obtain rfl := (HI.out.2.2.2.1) e3
      subst hn4
      refine inv_op (o := ⟨some 23, _, _, _, _, _⟩) rfl (fun K' hK' => ?_)
      go_simp
      refine (HLE.out W).mono ?_
      rintro e w1 ⟨u, rfl, hu, bn⟩
      obtain ⟨h0, h1, h2, h3, h7, h9, gL, gT, gR, gE, gN, gS, gW, gZ⟩ := HI.out
      exact hK'.out _ _ ⟨⟨b0, b1, b2, b3, true, b5, b6, b7, b8, b9, s19, s20, _, _, _, s24, s25, s26, s9⟩, rfl, rfl, h0, h1, h2, h3, h7, h9, (fun _ _ => hu), (fun h => by obtain ⟨r, h1, h2⟩ := gT h; exact ⟨r, h1, h2.below bn⟩), (fun h => by obtain ⟨r, h1, h2⟩ := gR h; exact ⟨r, h1, h2.below bn⟩), ((bn.block _ (Array.getElem?_eq_some_iff.1 gE).1).trans gE), (fun h => (bn.block _ (Array.getElem?_eq_some_iff.1 (gN h)).1).trans (gN h)), (fun h => by obtain ⟨r, h1, h2⟩ := gS h; exact ⟨r, (bn.block _ (Array.getElem?_eq_some_iff.1 h1).1).trans h1, h2.below bn⟩), (gW.trans (bn.mono (by omega))), (Nat.le_trans gZ bn.size)⟩
    · have hn5 : b5 = false := by revert hp; cases b5 <;> simp
      have e0 : b0 = true := by revert hp; cases b0 <;> simp
      have e1 : b1 = true := by revert hp; cases b1 <;> simp
      have e4 : b4 = true := by revert hp; cases b4 <;> simp
      clear hp
      obtain rfl := (HI.out.1) e0
      obtain rfl := (HI.out.2.1) e1
      subst hn5
      refine inv_op (o := ⟨some 24, _, _, _, _, _⟩) rfl (fun K' hK' => ?_)
      have gL := HI.out.2.2.2.2.2.2.1
      have gW := HI.out.2.2.2.2.2.2.2.2.2.2.2.2.1
      have gZ := HI.out.2.2.2.2.2.2.2.2.2.2.2.2.2
      have hu := gL rfl e4
      go_simp
      refine (HPUT.out W gW gZ _ hu).mono ?_
      rintro e w1 ⟨r9, rfl, hr9, bn⟩
      obtain ⟨h0, h1, h2, h3, h7, h9, gL, gT, gR, gE, gN, gS, gW, gZ⟩ := HI.out
      exact hK'.out _ _ ⟨⟨b0, b1, b2, b3, b4, true, b6, b7, b8, b9, _, _, s21, s22, _, _, s25, s26, s9⟩, rfl, rfl, h0, h1, h2, h3, h7, h9, (fun h => by cases h), (fun _ => ⟨r9, rfl, hr9⟩), (fun h => by obtain ⟨r, h1, h2⟩ := gR h; exact ⟨r, h1, h2.below bn⟩), ((bn.block _ (Array.getElem?_eq_some_iff.1 gE).1).trans gE), (fun h => (bn.block _ (Array.getElem?_eq_some_iff.1 (gN h)).1).trans (gN h)), (fun h => by obtain ⟨r, h1, h2⟩ := gS h; exact ⟨r, (bn.block _ (Array.getElem?_eq_some_iff.1 h1).1).trans h1, h2.below bn⟩), (gW.trans (bn.mono (by omega))), (Nat.le_trans gZ bn.size)⟩
    · have hn6 : b6 = false := by revert hp; cases b6 <;> simp
      have e5 : b5 = true := by revert hp; cases b5 <;> simp
      clear hp
      subst hn6
      refine inv_op (o := ⟨some 25, _, _, _, _, _⟩) rfl (fun K' hK' => ?_)
      have gT := HI.out.2.2.2.2.2.2.2.1
      obtain ⟨r9, hs9, hr9⟩ := gT e5
      subst hs9
      go_simp
      obtain ⟨h0, h1, h2, h3, h7, h9, gL, gT, gR, gE, gN, gS, gW, gZ⟩ := HI.out
      exact hK'.out _ _ ⟨⟨b0, b1, b2, b3, b4, b5, true, b7, b8, b9, s19, s20, s21, s22, s23, _, _, s26, s9⟩, rfl, rfl, h0, h1, h2, h3, h7, h9, gL, gT, (fun _ => ⟨r9, rfl, hr9⟩), gE, gN, gS, gW, gZ⟩
    · have hn7 : b7 = false := by revert hp; cases b7 <;> simp
      have e5 : b5 = true := by revert hp; cases b5 <;> simp
      clear hp
      subst hn7
      refine inv_op (o := ⟨some 26, _, _, _, _, _⟩) rfl (fun K' hK' => ?_)
      have gT := HI.out.2.2.2.2.2.2.2.1
      obtain ⟨r9, hs9, hr9⟩ := gT e5
      subst hs9
      go_simp
      obtain ⟨h0, h1, h2, h3, h7, h9, gL, gT, gR, gE, gN, gS, gW, gZ⟩ := HI.out
      exact hK'.out _ _ ⟨⟨b0, b1, b2, b3, b4, b5, b6, true, b8, b9, s19, s20, s21, s22, s23, _, s25, _, s9⟩, rfl, rfl, h0, h1, h2, h3, (fun _ => rfl), h9, gL, gT, gR, gE, gN, gS, gW, gZ⟩
    · have hn8 : b8 = false := by revert hp; cases b8 <;> simp
      have e5 : b5 = true := by revert hp; cases b5 <;> simp
      have e6 : b6 = true := by revert hp; cases b6 <;> simp
      clear hp
      subst hn8
      refine inv_op (o := ⟨none, _, _, _, _, _⟩) rfl (fun K' hK' => ?_)
      have gR := HI.out.2.2.2.2.2.2.2.2.1
      have gN := HI.out.2.2.2.2.2.2.2.2.2.2.1
      obtain ⟨r9, hs9, hr9⟩ := gR e6
      subst hs9
      obtain ⟨ra, rn, rc, hsh⟩ := hr9.shape HV.out
      subst hsh
      have hN := gN rfl
      obtain ⟨hc1, hc2⟩ := one_cell hN
      go_simp
      obtain ⟨h0, h1, h2, h3, h7, h9, gL, gT, gR, gE, gN, gS, gW, gZ⟩ := HI.out
      exact hK'.out _ _ ⟨⟨b0, b1, b2, b3, b4, b5, b6, b7, true, b9, s19, s20, s21, s22, s23, s24, _, s26, s9⟩, rfl, rfl, h0, h1, h2, h3, h7, h9, (fun h => by rw [e5] at h; cases h), (fun h => by obtain ⟨r, h1, h2⟩ := gT h; exact ⟨r, h1, h2.set _ _ (by show B + 1 < B + 2; omega)⟩), (fun _ => ⟨_, rfl, hr9.set _ _ (by show B + 1 < B + 2; omega)⟩), (one_other gE _ _ (by show B + 1 ≠ B; omega)), (fun h => by cases h), (fun _ => ⟨_, one_set hN _, hr9.set _ _ (by show B + 1 < B + 2; omega)⟩), (gW.setCell (show B ≤ B + 1 by omega) _), (by simpa [World.setCell] using gZ)⟩
    · have hn9 : b9 = false := by revert hp; cases b9 <;> simp
      have e7 : b7 = true := by revert hp; cases b7 <;> simp
      clear hp
      obtain rfl := (HI.out.2.2.2.2.1) e7
      subst hn9
      refine inv_op (o := ⟨some 9, _, _, _, _, _⟩) rfl (fun K' hK' => ?_)
      go_simp
      obtain ⟨h0, h1, h2, h3, h7, h9, gL, gT, gR, gE, gN, gS, gW, gZ⟩ := HI.out
      exact hK'.out _ _ ⟨⟨b0, b1, b2, b3, b4, b5, b6, b7, b8, true, s19, s20, s21, s22, s23, s24, s25, _, _⟩, rfl, rfl, h0, h1, h2, h3, h7, (fun _ => rfl), gL, gT, gR, gE, gN, gS, gW, gZ⟩
  case hdone =>
    rintro ⟨b0, b1, b2, b3, b4, b5, b6, b7, b8, b9, s19, s20, s21, s22, s23, s24, s25, s26, s9⟩ W hI hall
    dsimp only at hI hall ⊢
    have HI := Lib.hid hI
    clear hI
    obtain rfl : b8 = true := hall 8 (by decide)
    obtain rfl : b9 = true := hall 9 (by decide)
    obtain rfl := (HI.out.2.2.2.2.2.1) rfl
    have gS := HI.out.2.2.2.2.2.2.2.2.2.2.2.1
    have gW := HI.out.2.2.2.2.2.2.2.2.2.2.2.2.1
    clear HI hall
    obtain ⟨r, hr1, hr2⟩ := gS rfl
    have hc := (one_cell hr1).1
    obtain ⟨ra, rn, rc, hsh⟩ := hr2.shape HV.out
    subst hsh
    have HR2 := Lib.hid (hr2.base (show B ≤ B + 2 by omega))
    have HW2 := Lib.hid gW
    clear gS gW hr1 hr2
    go_wp2
    refine bodyPost_ret (v := .tuple #[.agg #[.slice ra rn rc], .int .i64 F]) (by simp [results, Try.results58, go_sem, hc]) rfl ⟨_, rfl, ?_, ?_⟩
    · rw [← HB.out]; exact HR2.out
    · rw [← HB.out]; exact HW2.out

structure RefPutNumX where
  b0 : Bool
  b1 : Bool
  b2 : Bool
  b3 : Bool
  b4 : Bool
  b5 : Bool
  b6 : Bool
  b7 : Bool
  b8 : Bool
  b9 : Bool
  s21 : Value
  s22 : Value
  s23 : Value
  s24 : Value
  s25 : Value
  s26 : Value
  s27 : Value
  s28 : Value
  s9 : Value
set_option maxHeartbeats 4000000 in
set_option maxRecDepth 100000 in
theorem refPutNum_in (v : Value) (l : List UInt8) (w : World) (hv : IsArg w v l) (z : Int) (k n : Nat) (hk0 : 1 ≤ k) (hk8 : k ≤ 8) (hn : n < 18446744073709551616) (hl : l.length ≤ 8192) :
    Calls Try.prog 59 #[.agg #[v], .int .i64 z, .int .i64 k, .int .u64 n] w fun e w' => ∃ r, e = .returned (.tuple #[.agg #[r], .int .i64 (faultOf l.length z k)]) ∧ Given w' w.heap.size v l r (putOf l z (leB n k)) ∧ Below w.heap.size w w' := by
  obtain ⟨a, c, hsh, _⟩ := hv.shape
  obtain ⟨N, hN⟩ : ∃ N, N = l.length := ⟨_, rfl⟩
  obtain ⟨F, hF⟩ : ∃ F, F = faultOf l.length z k := ⟨_, rfl⟩
  obtain ⟨G, hG⟩ : ∃ G, G = putOf l z (leB n k) := ⟨_, rfl⟩
  obtain ⟨B, hB⟩ : ∃ B, B = w.heap.size := ⟨_, rfl⟩
  rw [← hF, ← hG]
  rw [← hN] at hsh
  subst hsh
  have HV := Lib.hid hv
  have HLE := Lib.hid (show ∀ W, Calls Try.prog 71 #[.int .u64 n, .int .i64 k] W fun e w' => ∃ u, e = .returned u ∧ IsArg w' u (leB n k) ∧ Below W.heap.size W w' from
    fun W => (refLe_any n k k (clamped_of k hk8) hn W).mono fun e w' ⟨u, h1, h2, h3⟩ => ⟨u, h1, isArg_of_owns (l := leB n k) (by rw [leB_length]; exact h2), h3⟩)
  have HPUT := Lib.hid (show ∀ W, Below B w W → B + 2 ≤ W.heap.size → ∀ u, IsArg W u (leB n k) → Calls Try.prog 70 #[.agg #[.slice a N c], .int .i64 z, u] W fun e w' => ∃ r, e = .returned (.tuple #[.agg #[r], .int .i64 F]) ∧ Given w' (B + 2) (.slice a N c) l r G ∧ Below W.heap.size W w' from
    fun W hb hz u hu => (refPut_any _ l u (leB n k) W (hv.below (by rw [← hB]; exact hb)) hu z (by omega) (by rw [leB_length]; omega)).mono fun e w' ⟨r, h1, h2, h3⟩ => by
      rw [leB_length, ← hF] at h1
      rw [← hG] at h2
      exact ⟨r, h1, h2.base hz, h3⟩)
  have HBA := Lib.hid (((Below.refl w.heap.size w).alloc (Nat.le_refl _) (.cells #[.slice a N c] 28)).alloc (by simp) (.cells #[.slice none 0 0] 28))
  have HB := Lib.hid hB
  have HNL := Lib.hid (show N ≤ maxLen by unfold maxLen; omega)
  have HN := Lib.hid hN
  have HFF := Lib.hid hF
  have HGG := Lib.hid hG
  have HC := Lib.hid (show true = decide (N ≤ 8192) from (decide_eq_true (by omega)).symm)
  have hk1 : ¬ ((k : Int) < 1) := by omega
  have hk9 : ¬ ((8 : Int) < (k : Int)) := by omega
  clear hv hl hN hF hG hn hB
  go_enter Try.func59, Try.ntmps59
  go_wp2_with fail
  refine (refCheck_any _ _ _ HNL.out _ HC.out _).mono ?_
  rintro e W0 ⟨rfl, hb⟩
  have hrow := second_row hb
  have HW := Lib.hid (show Below B w W0 by rw [HB.out]; exact HBA.out.trans (hb.mono (by simp; omega)))
  have HZ := Lib.hid (show B + 2 ≤ W0.heap.size by have := hb.size; simp at this; rw [HB.out]; omega)
  rw [← HB.out] at hrow
  have HE := Lib.hid hrow.1
  have HN2 := Lib.hid hrow.2
  clear hb hrow
  go_upto_region 5 with fail
  clear hk1 hk9 hk0 hk8
  generalize decide ((k : Int) < 1) = d1
  generalize decide ((8 : Int) < (k : Int)) = d2
  generalize (d1 || d2) = d3
  rw [← HB.out]
  refine wp_region_rec (X := RefPutNumX) (by kernel_rfl) (by kernel_rfl) (fun x => #[x.b0, x.b1, x.b2, x.b3, x.b4, x.b5, x.b6, x.b7, x.b8, x.b9]) (fun x => { tmps := #[.agg #[.slice a N c], .int .i64 z, .int .i64 k, .int .u64 n, .pointer (some ⟨B, 0, none⟩), undef, undef, undef, .pointer (some ⟨B + 1, 0, none⟩), x.s9, .agg #[.slice a N c], .bool true, .bool false, undef, .int .i64 k, .bool d1, .bool d1, .int .i64 k, .bool d2, .bool d3, undef, x.s21, x.s22, x.s23, x.s24, x.s25, x.s26, x.s27, x.s28], defers := [] }) (fun x W => (x.b0 = true → x.s21 = .agg #[.slice a N c]) ∧ (x.b1 = true → x.s22 = .int .i64 z) ∧ (x.b2 = true → x.s23 = .int .u64 n) ∧ (x.b3 = true → x.s24 = .int .i64 k) ∧ (x.b7 = true → x.s28 = .int .i64 F) ∧ (x.b9 = true → x.s9 = .int .i64 F) ∧ (x.b5 = false → x.b4 = true → IsArg W x.s25 (leB n k)) ∧ (x.b5 = true → ∃ r, x.s26 = .tuple #[.agg #[r], .int .i64 F] ∧ Given W (B + 2) (.slice a N c) l r G) ∧ (x.b6 = true → ∃ r, x.s27 = .agg #[r] ∧ Given W (B + 2) (.slice a N c) l r G) ∧ (W.heap[B]? = some (.cells #[.slice a N c] 28 (0, 0))) ∧ (x.b8 = false → W.heap[B + 1]? = some (.cells #[.slice none 0 0] 28 (0, 0))) ∧ (x.b8 = true → ∃ r, W.heap[B + 1]? = some (.cells #[r] 28 (0, 0)) ∧ Given W (B + 2) (.slice a N c) l r G) ∧ (Below B w W) ∧ (B + 2 ≤ W.heap.size)) ⟨false, false, false, false, false, false, false, false, false, false, undef, undef, undef, undef, undef, undef, undef, undef, .int .i64 0⟩ rfl rfl ⟨(fun h => by cases h), (fun h => by cases h), (fun h => by cases h), (fun h => by cases h), (fun h => by cases h), (fun h => by cases h), (fun _ h => by cases h), (fun h => by cases h), (fun h => by cases h), HE.out, (fun _ => HN2.out), (fun h => by cases h), HW.out.drew, HZ.out⟩ (fun _ => rfl) ?hstep ?hdone
  case hstep =>
    rintro ⟨b0, b1, b2, b3, b4, b5, b6, b7, b8, b9, s21, s22, s23, s24, s25, s26, s27, s28, s9⟩ W hI i hi
    dsimp only at hI hi ⊢
    have HI := Lib.hid hI
    clear hI
    rw [Region.ready, List.mem_filter, List.mem_range] at hi
    obtain ⟨hlt, hp⟩ := hi
    have hi7 : i = 0 ∨ i = 1 ∨ i = 2 ∨ i = 3 ∨ i = 4 ∨ i = 5 ∨ i = 6 ∨ i = 7 ∨ i = 8 ∨ i = 9 := by simp at hlt; omega
    clear hlt
    rcases hi7 with rfl | rfl | rfl | rfl | rfl | rfl | rfl | rfl | rfl | rfl
    all_goals simp [Region.binds] at hp
    · have hn0 : b0 = false := by revert hp; cases b0 <;> simp
      clear hp
      subst hn0
      refine inv_op (o := ⟨some 21, _, _, _, _, _⟩) rfl (fun K' hK' => ?_)
      have gE := HI.out.2.2.2.2.2.2.2.2.2.1
      obtain ⟨hc1, hc2⟩ := one_cell gE
      go_simp
      obtain ⟨h0, h1, h2, h3, h7, h9, gL, gT, gR, gE, gN, gS, gW, gZ⟩ := HI.out
      exact hK'.out _ _ ⟨⟨true, b1, b2, b3, b4, b5, b6, b7, b8, b9, _, s22, s23, s24, s25, s26, s27, s28, s9⟩, rfl, rfl, (fun _ => rfl), h1, h2, h3, h7, h9, gL, gT, gR, gE, gN, gS, gW, gZ⟩
    · have hn1 : b1 = false := by revert hp; cases b1 <;> simp
      clear hp
      subst hn1
      refine inv_op (o := ⟨some 22, _, _, _, _, _⟩) rfl (fun K' hK' => ?_)
      go_simp
      obtain ⟨h0, h1, h2, h3, h7, h9, gL, gT, gR, gE, gN, gS, gW, gZ⟩ := HI.out
      exact hK'.out _ _ ⟨⟨b0, true, b2, b3, b4, b5, b6, b7, b8, b9, s21, _, s23, s24, s25, s26, s27, s28, s9⟩, rfl, rfl, h0, (fun _ => rfl), h2, h3, h7, h9, gL, gT, gR, gE, gN, gS, gW, gZ⟩
    · have hn2 : b2 = false := by revert hp; cases b2 <;> simp
      clear hp
      subst hn2
      refine inv_op (o := ⟨some 23, _, _, _, _, _⟩) rfl (fun K' hK' => ?_)
      go_simp
      obtain ⟨h0, h1, h2, h3, h7, h9, gL, gT, gR, gE, gN, gS, gW, gZ⟩ := HI.out
      exact hK'.out _ _ ⟨⟨b0, b1, true, b3, b4, b5, b6, b7, b8, b9, s21, s22, _, s24, s25, s26, s27, s28, s9⟩, rfl, rfl, h0, h1, (fun _ => rfl), h3, h7, h9, gL, gT, gR, gE, gN, gS, gW, gZ⟩
    · have hn3 : b3 = false := by revert hp; cases b3 <;> simp
      clear hp
      subst hn3
      refine inv_op (o := ⟨some 24, _, _, _, _, _⟩) rfl (fun K' hK' => ?_)
      go_simp
      obtain ⟨h0, h1, h2, h3, h7, h9, gL, gT, gR, gE, gN, gS, gW, gZ⟩ := HI.out
      exact hK'.out _ _ ⟨⟨b0, b1, b2, true, b4, b5, b6, b7, b8, b9, s21, s22, s23, _, s25, s26, s27, s28, s9⟩, rfl, rfl, h0, h1, h2, (fun _ => rfl), h7, h9, gL, gT, gR, gE, gN, gS, gW, gZ⟩
    · have hn4 : b4 = false := by revert hp; cases b4 <;> simp
      have e2 : b2 = true := by revert hp; cases b2 <;> simp
      have e3 : b3 = true := by revert hp; cases b3 <;> simp
      clear hp
      obtain rfl := (HI.out.2.2.1) e2
      obtain rfl := (HI.out.2.2.2.1) e3
      subst hn4
      refine inv_op (o := ⟨some 25, _, _, _, _, _⟩) rfl (fun K' hK' => ?_)
      go_simp
      refine (HLE.out W).mono ?_
      rintro e w1 ⟨u, rfl, hu, bn⟩
      obtain ⟨h0, h1, h2, h3, h7, h9, gL, gT, gR, gE, gN, gS, gW, gZ⟩ := HI.out
      exact hK'.out _ _ ⟨⟨b0, b1, b2, b3, true, b5, b6, b7, b8, b9, s21, s22, _, _, _, s26, s27, s28, s9⟩, rfl, rfl, h0, h1, h2, h3, h7, h9, (fun _ _ => hu), (fun h => by obtain ⟨r, h1, h2⟩ := gT h; exact ⟨r, h1, h2.below bn⟩), (fun h => by obtain ⟨r, h1, h2⟩ := gR h; exact ⟨r, h1, h2.below bn⟩), ((bn.block _ (Array.getElem?_eq_some_iff.1 gE).1).trans gE), (fun h => (bn.block _ (Array.getElem?_eq_some_iff.1 (gN h)).1).trans (gN h)), (fun h => by obtain ⟨r, h1, h2⟩ := gS h; exact ⟨r, (bn.block _ (Array.getElem?_eq_some_iff.1 h1).1).trans h1, h2.below bn⟩), (gW.trans (bn.mono (by omega))), (Nat.le_trans gZ bn.size)⟩
    · have hn5 : b5 = false := by revert hp; cases b5 <;> simp
      have e0 : b0 = true := by revert hp; cases b0 <;> simp
      have e1 : b1 = true := by revert hp; cases b1 <;> simp
      have e4 : b4 = true := by revert hp; cases b4 <;> simp
      clear hp
      obtain rfl := (HI.out.1) e0
      obtain rfl := (HI.out.2.1) e1
      subst hn5
      refine inv_op (o := ⟨some 26, _, _, _, _, _⟩) rfl (fun K' hK' => ?_)
      have gL := HI.out.2.2.2.2.2.2.1
      have gW := HI.out.2.2.2.2.2.2.2.2.2.2.2.2.1
      have gZ := HI.out.2.2.2.2.2.2.2.2.2.2.2.2.2
      have hu := gL rfl e4
      go_simp
      refine (HPUT.out W gW gZ _ hu).mono ?_
      rintro e w1 ⟨r9, rfl, hr9, bn⟩
      obtain ⟨h0, h1, h2, h3, h7, h9, gL, gT, gR, gE, gN, gS, gW, gZ⟩ := HI.out
      exact hK'.out _ _ ⟨⟨b0, b1, b2, b3, b4, true, b6, b7, b8, b9, _, _, s23, s24, _, _, s27, s28, s9⟩, rfl, rfl, h0, h1, h2, h3, h7, h9, (fun h => by cases h), (fun _ => ⟨r9, rfl, hr9⟩), (fun h => by obtain ⟨r, h1, h2⟩ := gR h; exact ⟨r, h1, h2.below bn⟩), ((bn.block _ (Array.getElem?_eq_some_iff.1 gE).1).trans gE), (fun h => (bn.block _ (Array.getElem?_eq_some_iff.1 (gN h)).1).trans (gN h)), (fun h => by obtain ⟨r, h1, h2⟩ := gS h; exact ⟨r, (bn.block _ (Array.getElem?_eq_some_iff.1 h1).1).trans h1, h2.below bn⟩), (gW.trans (bn.mono (by omega))), (Nat.le_trans gZ bn.size)⟩
    · have hn6 : b6 = false := by revert hp; cases b6 <;> simp
      have e5 : b5 = true := by revert hp; cases b5 <;> simp
      clear hp
      subst hn6
      refine inv_op (o := ⟨some 27, _, _, _, _, _⟩) rfl (fun K' hK' => ?_)
      have gT := HI.out.2.2.2.2.2.2.2.1
      obtain ⟨r9, hs9, hr9⟩ := gT e5
      subst hs9
      go_simp
      obtain ⟨h0, h1, h2, h3, h7, h9, gL, gT, gR, gE, gN, gS, gW, gZ⟩ := HI.out
      exact hK'.out _ _ ⟨⟨b0, b1, b2, b3, b4, b5, true, b7, b8, b9, s21, s22, s23, s24, s25, _, _, s28, s9⟩, rfl, rfl, h0, h1, h2, h3, h7, h9, gL, gT, (fun _ => ⟨r9, rfl, hr9⟩), gE, gN, gS, gW, gZ⟩
    · have hn7 : b7 = false := by revert hp; cases b7 <;> simp
      have e5 : b5 = true := by revert hp; cases b5 <;> simp
      clear hp
      subst hn7
      refine inv_op (o := ⟨some 28, _, _, _, _, _⟩) rfl (fun K' hK' => ?_)
      have gT := HI.out.2.2.2.2.2.2.2.1
      obtain ⟨r9, hs9, hr9⟩ := gT e5
      subst hs9
      go_simp
      obtain ⟨h0, h1, h2, h3, h7, h9, gL, gT, gR, gE, gN, gS, gW, gZ⟩ := HI.out
      exact hK'.out _ _ ⟨⟨b0, b1, b2, b3, b4, b5, b6, true, b8, b9, s21, s22, s23, s24, s25, _, s27, _, s9⟩, rfl, rfl, h0, h1, h2, h3, (fun _ => rfl), h9, gL, gT, gR, gE, gN, gS, gW, gZ⟩
    · have hn8 : b8 = false := by revert hp; cases b8 <;> simp
      have e5 : b5 = true := by revert hp; cases b5 <;> simp
      have e6 : b6 = true := by revert hp; cases b6 <;> simp
      clear hp
      subst hn8
      refine inv_op (o := ⟨none, _, _, _, _, _⟩) rfl (fun K' hK' => ?_)
      have gR := HI.out.2.2.2.2.2.2.2.2.1
      have gN := HI.out.2.2.2.2.2.2.2.2.2.2.1
      obtain ⟨r9, hs9, hr9⟩ := gR e6
      subst hs9
      obtain ⟨ra, rn, rc, hsh⟩ := hr9.shape HV.out
      subst hsh
      have hN := gN rfl
      obtain ⟨hc1, hc2⟩ := one_cell hN
      go_simp
      obtain ⟨h0, h1, h2, h3, h7, h9, gL, gT, gR, gE, gN, gS, gW, gZ⟩ := HI.out
      exact hK'.out _ _ ⟨⟨b0, b1, b2, b3, b4, b5, b6, b7, true, b9, s21, s22, s23, s24, s25, s26, _, s28, s9⟩, rfl, rfl, h0, h1, h2, h3, h7, h9, (fun h => by rw [e5] at h; cases h), (fun h => by obtain ⟨r, h1, h2⟩ := gT h; exact ⟨r, h1, h2.set _ _ (by show B + 1 < B + 2; omega)⟩), (fun _ => ⟨_, rfl, hr9.set _ _ (by show B + 1 < B + 2; omega)⟩), (one_other gE _ _ (by show B + 1 ≠ B; omega)), (fun h => by cases h), (fun _ => ⟨_, one_set hN _, hr9.set _ _ (by show B + 1 < B + 2; omega)⟩), (gW.setCell (show B ≤ B + 1 by omega) _), (by simpa [World.setCell] using gZ)⟩
    · have hn9 : b9 = false := by revert hp; cases b9 <;> simp
      have e7 : b7 = true := by revert hp; cases b7 <;> simp
      clear hp
      obtain rfl := (HI.out.2.2.2.2.1) e7
      subst hn9
      refine inv_op (o := ⟨some 9, _, _, _, _, _⟩) rfl (fun K' hK' => ?_)
      go_simp
      obtain ⟨h0, h1, h2, h3, h7, h9, gL, gT, gR, gE, gN, gS, gW, gZ⟩ := HI.out
      exact hK'.out _ _ ⟨⟨b0, b1, b2, b3, b4, b5, b6, b7, b8, true, s21, s22, s23, s24, s25, s26, s27, _, _⟩, rfl, rfl, h0, h1, h2, h3, h7, (fun _ => rfl), gL, gT, gR, gE, gN, gS, gW, gZ⟩
  case hdone =>
    rintro ⟨b0, b1, b2, b3, b4, b5, b6, b7, b8, b9, s21, s22, s23, s24, s25, s26, s27, s28, s9⟩ W hI hall
    dsimp only at hI hall ⊢
    have HI := Lib.hid hI
    clear hI
    obtain rfl : b8 = true := hall 8 (by decide)
    obtain rfl : b9 = true := hall 9 (by decide)
    obtain rfl := (HI.out.2.2.2.2.2.1) rfl
    have gS := HI.out.2.2.2.2.2.2.2.2.2.2.2.1
    have gW := HI.out.2.2.2.2.2.2.2.2.2.2.2.2.1
    clear HI hall
    obtain ⟨r, hr1, hr2⟩ := gS rfl
    have hc := (one_cell hr1).1
    obtain ⟨ra, rn, rc, hsh⟩ := hr2.shape HV.out
    subst hsh
    have HR2 := Lib.hid (hr2.base (show B ≤ B + 2 by omega))
    have HW2 := Lib.hid gW
    clear gS gW hr1 hr2
    go_wp2
    refine bodyPost_ret (v := .tuple #[.agg #[.slice ra rn rc], .int .i64 F]) (by simp [results, Try.results59, go_sem, hc]) rfl ⟨_, rfl, ?_, ?_⟩
    · rw [← HB.out]; exact HR2.out
    · rw [← HB.out]; exact HW2.out

/-- What memory becomes when a number is put. -/
def putNumOf (l : List UInt8) (x y : Int) (n : Nat) : List UInt8 := if sizeFaultOf l.length y = 0 then putOf l x (leB n y.toNat) else l

set_option maxHeartbeats 1000000 in
theorem putNum_any (v : Value) (l : List UInt8) (w : World) (hv : IsArg w v l) (x y : Int) (n : Nat) (hl : l.length ≤ 140737488355328) :
    Calls Try.prog 58 #[.agg #[v], .int .i64 x, .int .i64 y, .int .u64 n] w fun e w' => ∃ r, e = .returned (.tuple #[.agg #[r], .int .i64 (numFaultOf l.length x y)]) ∧ Given w' w.heap.size v l r (putNumOf l x y n) ∧ Below w.heap.size w w' := by
  by_cases h0 : sizeFaultOf l.length y = 0
  · obtain ⟨h1, h2, h3⟩ : l.length ≤ 8192 ∧ 1 ≤ y ∧ y ≤ 8 := by
      rcases size_cases l.length y with ⟨h, _⟩ | ⟨h, _⟩ | ⟨_, h⟩
      · omega
      · omega
      · exact h
    obtain ⟨k, rfl⟩ := Int.eq_ofNat_of_zero_le (show 0 ≤ y by omega)
    unfold numFaultOf putNumOf
    rw [if_pos h0, if_pos h0, Int.toNat_natCast]
    exact putNum_in v l w hv x k n (by omega) (by omega) h1
  · unfold numFaultOf putNumOf
    rw [if_neg h0, if_neg h0]
    obtain ⟨a, c, rfl, hq⟩ := hv.shape
    obtain ⟨s, hs⟩ : ∃ s, s = sizeFaultOf l.length y := ⟨_, rfl⟩
    rw [← hs] at h0
    rw [← hs]
    have HS := Lib.hid hs
    have HV := Lib.hid hv
    have HL := Lib.hid hl
    have HNL := Lib.hid (show l.length ≤ maxLen by unfold maxLen; omega)
    have HBA := Lib.hid (((Below.refl w.heap.size w).alloc (Nat.le_refl _) (.cells #[.slice a l.length c] 28)).alloc (by simp) (.cells #[.slice none 0 0] 28))
    clear hs hv hl hq
    go_enter Try.func58, Try.ntmps58
    go_wp2_with fail
    refine (sizeFault_any _ _ _ HNL.out _ _).mono ?_
    rintro e w1 ⟨rfl, hb⟩
    rw [← HS.out]
    have HB1 := Lib.hid hb
    have HB1w := Lib.hid (HBA.out.trans (hb.mono (by simp; omega)))
    have hcl := (second_box hb).1
    clear hb
    go_wp2_with fail
    refine (same_any _ _ _ (HV.out.below HB1w.out) HL.out).mono ?_
    rintro e w2 ⟨r, rfl, hr, hb⟩
    have HB2 := Lib.hid (HB1.out.trans (hb.mono HB1.out.size))
    have HB2w := Lib.hid (HBA.out.trans (HB2.out.mono (by simp; omega)))
    have HR := Lib.hid hr
    obtain ⟨_, hold, hfz, hlt⟩ := second_box HB2.out
    obtain ⟨ra, rc, rfl, _⟩ := (isArg_of_owns hr).shape
    clear hr hb hcl
    go_wp2
    refine bodyPost_ret (v := .tuple #[.agg #[.slice ra l.length rc], .int .i64 s]) (by simp [results, Try.results58, go_sem, hold]) rfl ⟨_, rfl, ?_, ?_⟩
    · exact .inr (ownsRow_base (ownsRow_set HR.out _ _ (by have := HB1.out.size; simp at this ⊢; omega)) HB1w.out.size)
    · exact HB2w.out.setCell (by simp) _

set_option maxHeartbeats 1000000 in
theorem refPutNum_any (v : Value) (l : List UInt8) (w : World) (hv : IsArg w v l) (x y : Int) (n : Nat) (hn : n < 18446744073709551616) (hl : l.length ≤ 140737488355328) :
    Calls Try.prog 59 #[.agg #[v], .int .i64 x, .int .i64 y, .int .u64 n] w fun e w' => ∃ r, e = .returned (.tuple #[.agg #[r], .int .i64 (numFaultOf l.length x y)]) ∧ Given w' w.heap.size v l r (putNumOf l x y n) ∧ Below w.heap.size w w' := by
  rcases size_cases l.length y with ⟨h0, h1⟩ | ⟨h0, h1, h2⟩ | ⟨h0, h1, h2, h3⟩
  · unfold numFaultOf putNumOf
    rw [h0, if_neg (by decide), if_neg (by decide)]
    obtain ⟨a, c, rfl, hq⟩ := hv.shape
    have HC := Lib.hid (show false = decide (l.length ≤ 8192) from (decide_eq_false (by omega)).symm)
    have HNL := Lib.hid (show l.length ≤ maxLen by unfold maxLen; omega)
    have HBA := Lib.hid (((Below.refl w.heap.size w).alloc (Nat.le_refl _) (.cells #[.slice a l.length c] 28)).alloc (by simp) (.cells #[.slice none 0 0] 28))
    clear hv hl hq h0 h1 hn
    go_enter Try.func59, Try.ntmps59
    go_wp2_with fail
    refine (refCheck_any _ _ _ HNL.out _ HC.out _).mono ?_
    rintro e w1 ⟨rfl, hb⟩
    have HB1w := Lib.hid (HBA.out.trans (hb.mono (by simp; omega)))
    obtain ⟨hcl, hold, hfz, hlt⟩ := second_box hb
    clear hb
    go_wp2
    refine bodyPost_ret (v := .tuple #[.agg #[.slice a l.length c], .int .i64 3]) (by simp [results, Try.results59, go_sem, hold]) rfl ⟨_, rfl, .inl ⟨rfl, rfl⟩, ?_⟩
    exact HB1w.out.setCell (by simp) _
  · unfold numFaultOf putNumOf
    rw [h0, if_neg (by decide), if_neg (by decide)]
    obtain ⟨a, c, rfl, hq⟩ := hv.shape
    have HC := Lib.hid (show true = decide (l.length ≤ 8192) from (decide_eq_true (by omega)).symm)
    have HNL := Lib.hid (show l.length ≤ maxLen by unfold maxLen; omega)
    have HBA := Lib.hid (((Below.refl w.heap.size w).alloc (Nat.le_refl _) (.cells #[.slice a l.length c] 28)).alloc (by simp) (.cells #[.slice none 0 0] 28))
    have h3 : y < 1 ∨ (1 ≤ y ∧ 8 < y) := by omega
    clear hv hl hq h0 h1 hn h2
    rcases h3 with h3 | ⟨h3, h4⟩
    all_goals (
      go_enter Try.func59, Try.ntmps59
      go_wp2_with fail
      refine (refCheck_any _ _ _ HNL.out _ HC.out _).mono ?_
      rintro e w1 ⟨rfl, hb⟩
      have HB1w := Lib.hid (HBA.out.trans (hb.mono (by simp; omega)))
      obtain ⟨hcl, hold, hfz, hlt⟩ := second_box hb
      clear hb
      go_wp2
      refine bodyPost_ret (v := .tuple #[.agg #[.slice a l.length c], .int .i64 2]) (by simp [results, Try.results59, go_sem, hold]) rfl ⟨_, rfl, .inl ⟨rfl, rfl⟩, ?_⟩
      exact HB1w.out.setCell (by simp) _)
  · obtain ⟨k, rfl⟩ := Int.eq_ofNat_of_zero_le (show 0 ≤ y by omega)
    unfold numFaultOf putNumOf
    rw [if_pos h0, if_pos h0, Int.toNat_natCast]
    exact refPutNum_in v l w hv x k n (by omega) (by omega) hn h1
end Go.Proofs.Ytofeiheomnpggaa
