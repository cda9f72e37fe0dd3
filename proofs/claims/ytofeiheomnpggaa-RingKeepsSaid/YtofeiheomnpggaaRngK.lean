/- How a ring is written to: Offer, Return. -/
import Derived.Test.YtofeiheomnpggaaRngJ
namespace Go.Proofs.Ytofeiheomnpggaa
open Go.RowKit Go.Lib

set_option maxHeartbeats 1000000 in
theorem offer_out (v : Value) (l : List UInt8) (b z0 : Int) (k : Nat) (z : Int) (h : ringF l.length b z0 = 70) (hl : l.length ≤ 140737488355328) (w : World) (hv : IsArg w v l) :
    Calls Try.prog 8 #[.agg #[v], .int .i64 b, .int .i64 z0, .int .u16 (k : Nat), .int .i64 z] w (Wrote w v l l 70) := by
  have HV := Lib.hid hv
  have HL := Lib.hid hl
  have HMX := Lib.hid (show l.length ≤ maxLen by unfold maxLen; omega)
  have HF := Lib.hid h
  obtain ⟨va, vc, rfl, _⟩ := hv.shape
  obtain ⟨t1, t2, t3, t4⟩ := three_new w (.slice va l.length vc) #[.int .i64 z] (.slice none 0 0) 28 3 28
  have HB := Lib.hid t4
  have HM := Lib.hid t1
  have HH := Lib.hid t2
  have HR := Lib.hid t3
  clear hv hl h t1 t2 t3 t4
  go_enter Try.func8, Try.ntmps8
  go_wp2_with fail
  refine (ringFault_any _ _ _ HMX.out _ _ _ HF.out _).mono ?_
  rintro e w1 ⟨rfl, hb⟩
  replace HM := Lib.hid (row_keep HM.out hb)
  replace HH := Lib.hid (row_keep HH.out hb)
  replace HR := Lib.hid (row_keep HR.out hb)
  replace HB := Lib.hid (HB.out.trans (hb.mono HB.out.size))
  clear hb
  obtain ⟨c0, _⟩ := one_cell HM.out
  go_wp2_with fail
  refine (ringSame_any _ l _ (HV.out.below HB.out) HL.out).mono ?_
  rintro e w2 ⟨r, rfl, hr, hb⟩
  have HR2 := Lib.hid (row_keep HR.out hb)
  have HB2 := Lib.hid (HB.out.trans (hb.mono HB.out.size))
  have HO := Lib.hid (ownsRow_base (base' := w.heap.size) hr HB.out.size)
  obtain ⟨ra, rc, rfl, _⟩ := (isArg_of_owns hr).shape
  obtain ⟨r0, f0⟩ := one_cell HR2.out
  clear hb hr c0
  go_wp2
  refine bodyPost_ret (v := .tuple #[.agg #[.slice ra l.length rc], .int .i64 70]) (by simp [results, Try.results8, go_sem, r0]) rfl ⟨ra, rc, rfl, .inr (owns_far HO.out HR2.out tneMU _), HB2.out.setCell (by simp; omega) _⟩
structure RngOfferX where
  b0 : Bool
  b1 : Bool
  b2 : Bool
  b3 : Bool
  b4 : Bool
  b5 : Bool
  b6 : Bool
  b7 : Bool
  b8 : Bool
  b9 : Bool
  s22 : Value
  s23 : Value
  s24 : Value
  s25 : Value
  s26 : Value
  s27 : Value
  s28 : Value
  s29 : Value
  s11 : Value

set_option maxHeartbeats 4000000 in
set_option maxRecDepth 100000 in
theorem offer_in (v : Value) (l : List UInt8) (w : World) (hv : IsArg w v l) (B N at_ : Nat) (hok : RingOk l.length B N) (hi : at_ < 65536) (z : Int) (y : Nat) (hy : (z % 65536).toNat = y) :
    Calls Try.prog 8 #[.agg #[v], .int .i64 (B : Nat), .int .i64 (N : Nat), .int .u16 (at_ : Nat), .int .i64 z] w (Wrote w v l (offerD l B N at_ y) 0) := by
  obtain ⟨ix, hix⟩ : ∃ p, p = B + 16 * N + 2 := ⟨_, rfl⟩
  obtain ⟨sq, hsq⟩ : ∃ p, p = B + 16 * N + 4 := ⟨_, rfl⟩
  obtain ⟨p, hp⟩ : ∃ p, B + 16 * N + 4 + 2 * (at_ % N) = p := ⟨_, rfl⟩
  obtain ⟨H, hH⟩ : ∃ H, H = offerD l B N at_ y := ⟨_, rfl⟩
  rw [← hH]
  have hN := hok.right.le
  have hsz := sizeN_le N
  have hfit := hok.fits
  have hL := hok.few
  have HL := Lib.hid hL
  have HB8 := Lib.hid (show B ≤ 8192 by omega)
  have HN := Lib.hid hN
  have HMX := Lib.hid (show l.length ≤ maxLen by unfold maxLen; omega)
  have HF := Lib.hid (show ringF l.length (B : Int) (N : Int) = 0 by rw [ringF, if_pos hok.ok])
  have HV := Lib.hid hv
  obtain ⟨j, hj⟩ : ∃ j, at_ % N = j := ⟨_, rfl⟩
  have hjn : j < N := by rw [← hj]; exact Nat.mod_lt _ (by omega)
  rw [hj] at hp
  have HJ := Lib.hid hj
  have HI := Lib.hid hi
  have HQ := Lib.hid (show ((j : Nat) : Int) * 2 = ((2 * j : Nat) : Int) by omega)
  have HT := Lib.hid (show ((B + 16 * N + 4 : Nat) : Int) + ((2 * j : Nat) : Int) = (p : Nat) by omega)
  have HQ1 := Lib.hid (show -9223372036854775808 ≤ ((2 * j : Nat) : Int) ∧ ((2 * j : Nat) : Int) ≤ 9223372036854775807 by omega)
  have HT1 := Lib.hid (show -9223372036854775808 ≤ ((p : Nat) : Int) ∧ ((p : Nat) : Int) ≤ 9223372036854775807 by omega)
  have hpl : p + 2 ≤ l.length := by omega
  have HPL := Lib.hid hpl
  have hixl : ix + 2 ≤ l.length := by omega
  have hpe : sq + 2 * j = p := by omega
  have HP := Lib.hid (show ∀ W, Calls Try.prog 34 #[.int .i64 (B : Nat), .int .i64 (N : Nat)] W fun e w' => ∃ a b, e = .returned (.agg #[.int .i64 (ix : Nat), .func (.func 64) #[] #[.pointer (some ⟨a, 0, none⟩), .pointer (some ⟨b, 0, none⟩)]]) ∧ RowAt w' a b (sq : Nat) 2 ∧ Below W.heap.size W w' from fun W => availPart_any B N ix sq hix.symm hsq.symm (by omega) hN.2 W)
  obtain ⟨va, vc, rfl, _⟩ := hv.shape
  obtain ⟨t1, t2, t3, t4⟩ := three_new w (.slice va l.length vc) #[.int .i64 z] (.slice none 0 0) 28 3 28
  have HB := Lib.hid t4
  have HM := Lib.hid t1
  have HH := Lib.hid t2
  have HR := Lib.hid t3
  have hHH : H = putAt (putAt l p 2 y) ix 2 (at_ + 1) := by rw [hH, offerD, hj, hix, ← hp]
  have HLA := Lib.hid (show ∀ W, Below w.heap.size w W → W.heap[w.heap.size + 1]? = some (.cells #[.int .i64 z] 3 (0, 0)) → ∀ a b, RowAt W a b (sq : Nat) 2 → Calls Try.prog 33 #[.agg #[.slice va l.length vc], .agg #[.int .i64 (ix : Nat), .func (.func 64) #[] #[.pointer (some ⟨a, 0, none⟩), .pointer (some ⟨b, 0, none⟩)]], .int .i64 (N : Nat), .int .u16 (at_ : Nat), .func (.func 35) #[] #[.pointer (some ⟨w.heap.size + 1, 0, none⟩)]] W fun e w' => ∃ ra rc, e = .returned (.agg #[.slice ra l.length rc]) ∧ Given w' w.heap.size (.slice va l.length vc) l (.slice ra l.length rc) H ∧ Below W.heap.size W w' from
    fun W hb hh a b hr => (laid_offer _ l W (hv.below hb) hL ix sq a b N at_ j p (w.heap.size + 1) hr hN hi hj hpe hpl hixl z y hy hh).mono fun e w' ⟨ra, rc, h1, h2, h3⟩ => ⟨ra, rc, h1, by rw [hHH]; exact h2.base hb.size, h3⟩)
  clear hN hsz hfit hL hv hj hi hpl hok hp hjn hix hsq hixl hpe hH hHH t1 t2 t3 t4 hy
  go_enter Try.func8, Try.ntmps8
  go_wp2_with fail
  refine (ringFault_any _ _ _ HMX.out _ _ _ HF.out _).mono ?_
  rintro e w1 ⟨rfl, hb⟩
  replace HM := Lib.hid (row_keep HM.out hb)
  replace HH := Lib.hid (row_keep HH.out hb)
  replace HR := Lib.hid (row_keep HR.out hb)
  replace HB := Lib.hid (HB.out.trans (hb.mono HB.out.size))
  clear hb
  have HMW := Lib.hid (show ∀ W, Below w1.heap.size w1 W → W.heap[w.heap.size]? = some (.cells #[.slice va l.length vc] 28 (0, 0)) from fun W h => row_keep HM.out h)
  have HRW := Lib.hid (show ∀ W, Below w1.heap.size w1 W → W.heap[w.heap.size + 1 + 1]? = some (.cells #[.slice none 0 0] 28) from fun W h => row_keep HR.out h)
  have HLD := Lib.hid (show ∀ W, Below w1.heap.size w1 W → ∀ a b, RowAt W a b (sq : Nat) 2 → Calls Try.prog 33 #[.agg #[.slice va l.length vc], .agg #[.int .i64 (ix : Nat), .func (.func 64) #[] #[.pointer (some ⟨a, 0, none⟩), .pointer (some ⟨b, 0, none⟩)]], .int .i64 (N : Nat), .int .u16 (at_ : Nat), .func (.func 35) #[] #[.pointer (some ⟨w.heap.size + 1, 0, none⟩)]] W fun e w' => ∃ ra rc, e = .returned (.agg #[.slice ra l.length rc]) ∧ Given w' w.heap.size (.slice va l.length vc) l (.slice ra l.length rc) H ∧ Below W.heap.size W w' from fun W h => HLA.out W (HB.out.trans (h.mono HB.out.size)) (row_keep HH.out h))
  clear HLA
  go_wp2_with fail
  refine wp_region_rec (X := RngOfferX) (by kernel_rfl) (by kernel_rfl) (fun x => #[x.b0, x.b1, x.b2, x.b3, x.b4, x.b5, x.b6, x.b7, x.b8, x.b9]) (fun x => { tmps := #[.agg #[.slice va l.length vc], .int .i64 (B : Nat), .int .i64 (N : Nat), .int .u16 (at_ : Nat), .int .i64 z, .pointer (some ⟨w.heap.size, 0, none⟩), undef, undef, undef, .pointer (some ⟨w.heap.size + 1, 0, none⟩), .pointer (some ⟨w.heap.size + 1 + 1, 0, none⟩), x.s11, .int .i64 0, .agg #[.slice va l.length vc], .int .i64 (B : Nat), .int .i64 (N : Nat), .int .i64 0, .int .i64 0, .bool false, undef, undef, undef, x.s22, x.s23, x.s24, x.s25, x.s26, x.s27, x.s28, x.s29], defers := [] }) (fun x W => (x.b0 = true → x.s22 = .agg #[.slice va l.length vc]) ∧ (x.b1 = true → x.s23 = .int .i64 (B : Nat)) ∧ (x.b2 = true → x.s24 = .int .i64 (N : Nat)) ∧ (x.b4 = true → x.s26 = .int .i64 (N : Nat)) ∧ (x.b5 = true → x.s27 = .int .u16 (at_ : Nat)) ∧ (x.b6 = true → x.s28 = .func (.func 35) #[] #[.pointer (some ⟨w.heap.size + 1, 0, none⟩)]) ∧ (x.b9 = true → x.s11 = .int .i64 0) ∧ (x.b8 = true → x.b0 = true ∧ x.b3 = true ∧ x.b7 = true) ∧ (x.b7 = false → x.b3 = true → ∃ a b, x.s25 = .agg #[.int .i64 (ix : Nat), .func (.func 64) #[] #[.pointer (some ⟨a, 0, none⟩), .pointer (some ⟨b, 0, none⟩)]] ∧ RowAt W a b (sq : Nat) 2) ∧ (x.b7 = true → ∃ ra rc, x.s29 = .agg #[.slice ra l.length rc] ∧ Given W w.heap.size (.slice va l.length vc) l (.slice ra l.length rc) H) ∧ (x.b8 = true → ∃ ra rc, W.heap[w.heap.size + 1 + 1]? = some (.cells #[.slice ra l.length rc] 28 (0, 0)) ∧ Given W w.heap.size (.slice va l.length vc) l (.slice ra l.length rc) H) ∧ (x.b8 = false → Below w1.heap.size w1 W) ∧ (Below w.heap.size w W) ∧ (x.b7 = true → x.b3 = true)) ⟨false, false, false, false, false, false, false, false, false, false, undef, undef, undef, undef, undef, undef, undef, undef, .int .i64 0⟩ rfl rfl ⟨(fun h => by cases h), (fun h => by cases h), (fun h => by cases h), (fun h => by cases h), (fun h => by cases h), (fun h => by cases h), (fun h => by cases h), (fun h => by cases h), (fun _ h => by cases h), (fun h => by cases h), (fun h => by cases h), (fun _ => (Below.refl _ _).drew), HB.out.drew, (fun h => by cases h)⟩ (fun _ => rfl) ?hstep ?hdone
  case hstep =>
    rintro ⟨b0, b1, b2, b3, b4, b5, b6, b7, b8, b9, s22, s23, s24, s25, s26, s27, s28, s29, s11⟩ W hI i hi
    dsimp only at hI hi ⊢
    have HI := Lib.hid hI
    clear hI
    rw [Region.ready, List.mem_filter, List.mem_range] at hi
    obtain ⟨hlt, hp⟩ := hi
    have hi7 : i = 0 ∨ i = 1 ∨ i = 2 ∨ i = 3 ∨ i = 4 ∨ i = 5 ∨ i = 6 ∨ i = 7 ∨ i = 8 ∨ i = 9 := by simp at hlt; omega
    clear hlt
    rcases hi7 with rfl | rfl | rfl | rfl | rfl | rfl | rfl | rfl | rfl | rfl
    all_goals simp [Region.binds] at hp
    · have hn0 : b0 = false := by revert hp; cases b0 <;> simp
      clear hp
      subst hn0
      refine inv_op (o := ⟨some 22, _, _, _, _, _⟩) rfl (fun K' hK' => ?_)
      have gE := HI.out.2.2.2.2.2.2.2.1
      have gW := HI.out.2.2.2.2.2.2.2.2.2.2.2.1
      have hb8 : b8 = false := by cases b8 with | false => rfl | true => exact absurd (gE rfl).1 (by decide)
      subst hb8
      obtain ⟨hc1, hc2⟩ := one_cell (HMW.out W (gW rfl))
      go_simp
      obtain ⟨h0, h1, h2, h4, h5, h6, h9, gE, gR, gL, gB, gW, gO, gC⟩ := HI.out
      exact hK'.out _ _ ⟨⟨true, b1, b2, b3, b4, b5, b6, b7, false, b9, _, s23, s24, s25, s26, s27, s28, s29, s11⟩, rfl, rfl, (fun _ => rfl), h1, h2, h4, h5, h6, h9, (fun e => by cases e), gR, gL, gB, gW, gO, gC⟩
    · have hn1 : b1 = false := by revert hp; cases b1 <;> simp
      clear hp
      subst hn1
      refine inv_op (o := ⟨some 23, _, _, _, _, _⟩) rfl (fun K' hK' => ?_)
      go_simp
      obtain ⟨h0, h1, h2, h4, h5, h6, h9, gE, gR, gL, gB, gW, gO, gC⟩ := HI.out
      exact hK'.out _ _ ⟨⟨b0, true, b2, b3, b4, b5, b6, b7, b8, b9, s22, _, s24, s25, s26, s27, s28, s29, s11⟩, rfl, rfl, h0, (fun _ => rfl), h2, h4, h5, h6, h9, gE, gR, gL, gB, gW, gO, gC⟩
    · have hn2 : b2 = false := by revert hp; cases b2 <;> simp
      clear hp
      subst hn2
      refine inv_op (o := ⟨some 24, _, _, _, _, _⟩) rfl (fun K' hK' => ?_)
      go_simp
      obtain ⟨h0, h1, h2, h4, h5, h6, h9, gE, gR, gL, gB, gW, gO, gC⟩ := HI.out
      exact hK'.out _ _ ⟨⟨b0, b1, true, b3, b4, b5, b6, b7, b8, b9, s22, s23, _, s25, s26, s27, s28, s29, s11⟩, rfl, rfl, h0, h1, (fun _ => rfl), h4, h5, h6, h9, gE, gR, gL, gB, gW, gO, gC⟩
    · have hn3 : b3 = false := by revert hp; cases b3 <;> simp
      have e1 : b1 = true := by revert hp; cases b1 <;> simp
      have e2 : b2 = true := by revert hp; cases b2 <;> simp
      clear hp
      obtain rfl := (HI.out.2.1) e1
      obtain rfl := (HI.out.2.2.1) e2
      subst hn3
      refine inv_op (o := ⟨some 25, _, _, _, _, _⟩) rfl (fun K' hK' => ?_)
      have gE := HI.out.2.2.2.2.2.2.2.1
      have gC := HI.out.2.2.2.2.2.2.2.2.2.2.2.2.2
      have hb8 : b8 = false := by cases b8 with | false => rfl | true => exact absurd (gE rfl).2.1 (by decide)
      subst hb8
      have hb7 : b7 = false := by cases b7 with | false => rfl | true => exact absurd (gC rfl) (by decide)
      subst hb7
      go_simp
      refine (HP.out W).mono ?_
      rintro e w2 ⟨a, b, rfl, hr, bn⟩
      obtain ⟨h0, h1, h2, h4, h5, h6, h9, gE, gR, gL, gB, gW, gO, gC⟩ := HI.out
      exact hK'.out _ _ ⟨⟨b0, b1, b2, true, b4, b5, b6, false, false, b9, s22, _, _, _, s26, s27, s28, s29, s11⟩, rfl, rfl, h0, h1, h2, h4, h5, h6, h9, (fun e => by cases e), (fun _ _ => ⟨a, b, rfl, hr⟩), (fun e => by cases e), (fun e => by cases e), (fun e => (gW e).trans (bn.mono (gW e).size)), (gO.trans (bn.mono gO.size)), (fun _ => rfl)⟩
    · have hn4 : b4 = false := by revert hp; cases b4 <;> simp
      clear hp
      subst hn4
      refine inv_op (o := ⟨some 26, _, _, _, _, _⟩) rfl (fun K' hK' => ?_)
      go_simp
      obtain ⟨h0, h1, h2, h4, h5, h6, h9, gE, gR, gL, gB, gW, gO, gC⟩ := HI.out
      exact hK'.out _ _ ⟨⟨b0, b1, b2, b3, true, b5, b6, b7, b8, b9, s22, s23, s24, s25, _, s27, s28, s29, s11⟩, rfl, rfl, h0, h1, h2, (fun _ => rfl), h5, h6, h9, gE, gR, gL, gB, gW, gO, gC⟩
    · have hn5 : b5 = false := by revert hp; cases b5 <;> simp
      clear hp
      subst hn5
      refine inv_op (o := ⟨some 27, _, _, _, _, _⟩) rfl (fun K' hK' => ?_)
      go_simp
      obtain ⟨h0, h1, h2, h4, h5, h6, h9, gE, gR, gL, gB, gW, gO, gC⟩ := HI.out
      exact hK'.out _ _ ⟨⟨b0, b1, b2, b3, b4, true, b6, b7, b8, b9, s22, s23, s24, s25, s26, _, s28, s29, s11⟩, rfl, rfl, h0, h1, h2, h4, (fun _ => rfl), h6, h9, gE, gR, gL, gB, gW, gO, gC⟩
    · have hn6 : b6 = false := by revert hp; cases b6 <;> simp
      clear hp
      subst hn6
      refine inv_op (o := ⟨some 28, _, _, _, _, _⟩) rfl (fun K' hK' => ?_)
      go_simp
      obtain ⟨h0, h1, h2, h4, h5, h6, h9, gE, gR, gL, gB, gW, gO, gC⟩ := HI.out
      exact hK'.out _ _ ⟨⟨b0, b1, b2, b3, b4, b5, true, b7, b8, b9, s22, s23, s24, s25, s26, s27, _, s29, s11⟩, rfl, rfl, h0, h1, h2, h4, h5, (fun _ => rfl), h9, gE, gR, gL, gB, gW, gO, gC⟩
    · have hn7 : b7 = false := by revert hp; cases b7 <;> simp
      have e0 : b0 = true := by revert hp; cases b0 <;> simp
      have e3 : b3 = true := by revert hp; cases b3 <;> simp
      have e4 : b4 = true := by revert hp; cases b4 <;> simp
      have e5 : b5 = true := by revert hp; cases b5 <;> simp
      have e6 : b6 = true := by revert hp; cases b6 <;> simp
      clear hp
      obtain rfl := (HI.out.1) e0
      obtain rfl := (HI.out.2.2.2.1) e4
      obtain rfl := (HI.out.2.2.2.2.1) e5
      obtain rfl := (HI.out.2.2.2.2.2.1) e6
      subst hn7
      refine inv_op (o := ⟨some 29, _, _, _, _, _⟩) rfl (fun K' hK' => ?_)
      have gE := HI.out.2.2.2.2.2.2.2.1
      have gR := HI.out.2.2.2.2.2.2.2.2.1
      have gW := HI.out.2.2.2.2.2.2.2.2.2.2.2.1
      have hb8 : b8 = false := by cases b8 with | false => rfl | true => exact absurd (gE rfl).2.2 (by decide)
      subst hb8
      obtain ⟨a, b, rfl, hr⟩ := gR rfl e3
      go_simp
      refine (HLD.out W (gW rfl) a b hr).mono ?_
      rintro e w2 ⟨ra, rc, rfl, hg, bn⟩
      obtain ⟨h0, h1, h2, h4, h5, h6, h9, gE, gR, gL, gB, gW, gO, gC⟩ := HI.out
      exact hK'.out _ _ ⟨⟨b0, b1, b2, b3, b4, b5, b6, true, false, b9, _, s23, s24, _, _, _, _, _, s11⟩, rfl, rfl, h0, h1, h2, h4, h5, h6, h9, (fun e => by cases e), (fun e => by cases e), (fun _ => ⟨ra, rc, rfl, hg⟩), (fun e => by cases e), (fun e => (gW e).trans (bn.mono (gW e).size)), (gO.trans (bn.mono gO.size)), (fun _ => e3)⟩
    · have hn8 : b8 = false := by revert hp; cases b8 <;> simp
      have e0 : b0 = true := by revert hp; cases b0 <;> simp
      have e1 : b1 = true := by revert hp; cases b1 <;> simp
      have e2 : b2 = true := by revert hp; cases b2 <;> simp
      have e3 : b3 = true := by revert hp; cases b3 <;> simp
      have e4 : b4 = true := by revert hp; cases b4 <;> simp
      have e5 : b5 = true := by revert hp; cases b5 <;> simp
      have e6 : b6 = true := by revert hp; cases b6 <;> simp
      have e7 : b7 = true := by revert hp; cases b7 <;> simp
      clear hp
      subst hn8
      refine inv_op (o := ⟨none, _, _, _, _, _⟩) rfl (fun K' hK' => ?_)
      have gL := HI.out.2.2.2.2.2.2.2.2.2.1
      have gW := HI.out.2.2.2.2.2.2.2.2.2.2.2.1
      obtain ⟨ra, rc, rfl, hg⟩ := gL e7
      obtain ⟨hc1, hc2⟩ := one_cell (HRW.out W (gW rfl))
      have hrow := HRW.out W (gW rfl)
      go_simp
      obtain ⟨h0, h1, h2, h4, h5, h6, h9, gE, gR, gL, gB, gW, gO, gC⟩ := HI.out
      exact hK'.out _ _ ⟨⟨b0, b1, b2, b3, b4, b5, b6, b7, true, b9, s22, s23, s24, s25, s26, s27, s28, _, s11⟩, rfl, rfl, h0, h1, h2, h4, h5, h6, h9, (fun _ => ⟨e0, e3, e7⟩), (fun e7b _ => by rw [e7] at e7b; cases e7b), (fun _ => ⟨ra, rc, rfl, hg.far hrow tneMU _⟩), (fun _ => ⟨ra, rc, one_set hrow _, hg.far hrow tneMU _⟩), (fun e => by cases e), (gO.setCell (by simp; omega) _), gC⟩
    · have hn9 : b9 = false := by revert hp; cases b9 <;> simp
      clear hp
      subst hn9
      refine inv_op (o := ⟨some 11, _, _, _, _, _⟩) rfl (fun K' hK' => ?_)
      go_simp
      obtain ⟨h0, h1, h2, h4, h5, h6, h9, gE, gR, gL, gB, gW, gO, gC⟩ := HI.out
      exact hK'.out _ _ ⟨⟨b0, b1, b2, b3, b4, b5, b6, b7, b8, true, s22, s23, s24, s25, s26, s27, s28, s29, _⟩, rfl, rfl, h0, h1, h2, h4, h5, h6, (fun _ => rfl), gE, gR, gL, gB, gW, gO, gC⟩
  case hdone =>
    rintro ⟨b0, b1, b2, b3, b4, b5, b6, b7, b8, b9, s22, s23, s24, s25, s26, s27, s28, s29, s11⟩ W hI hall
    dsimp only at hI hall ⊢
    have HI := Lib.hid hI
    clear hI
    obtain rfl : b0 = true := hall 0 (by decide)
    obtain rfl : b1 = true := hall 1 (by decide)
    obtain rfl : b2 = true := hall 2 (by decide)
    obtain rfl : b3 = true := hall 3 (by decide)
    obtain rfl : b4 = true := hall 4 (by decide)
    obtain rfl : b5 = true := hall 5 (by decide)
    obtain rfl : b6 = true := hall 6 (by decide)
    obtain rfl : b7 = true := hall 7 (by decide)
    obtain rfl : b8 = true := hall 8 (by decide)
    obtain rfl : b9 = true := hall 9 (by decide)
    obtain rfl := (HI.out.2.2.2.2.2.2.1) rfl
    have gB := HI.out.2.2.2.2.2.2.2.2.2.2.1
    have gO := HI.out.2.2.2.2.2.2.2.2.2.2.2.2.1
    clear HI hall
    obtain ⟨ra, rc, hrow, hg⟩ := gB rfl
    obtain ⟨r0, f0⟩ := one_cell hrow
    have HG := Lib.hid hg
    have HO := Lib.hid gO
    clear hrow hg gB gO f0
    go_wp2
    refine bodyPost_ret (v := .tuple #[.agg #[.slice ra l.length rc], .int .i64 0]) (by simp [results, Try.results8, go_sem, r0]) rfl ⟨ra, rc, rfl, HG.out, HO.out⟩
theorem offer_any (v : Value) (l : List UInt8) (b z0 : Int) (k : Nat) (hk : k < 65536) (z : Int) (F : Int) (G : List UInt8) (hF : ringF l.length b z0 = F) (hG : offerX l b z0 k z = G) (hl : l.length ≤ 140737488355328) (w : World) (hv : IsArg w v l) :
    Calls Try.prog 8 #[.agg #[v], .int .i64 b, .int .i64 z0, .int .u16 (k : Nat), .int .i64 z] w (Wrote w v l G F) := by
  by_cases h0 : F = 0
  · subst h0
    obtain ⟨B, N, rfl, rfl, hok⟩ := ring_in hF
    rw [offerX, if_pos hF, Int.toNat_natCast, Int.toNat_natCast] at hG
    rw [← hG]
    exact offer_in v l w hv B N k hok hk z _ rfl
  · have h7 := ringF_two (by rw [hF]; exact h0)
    obtain rfl : F = 70 := by omega
    rw [offerX, if_neg (by rw [h7]; decide)] at hG
    subst hG
    exact offer_out v l b z0 k z h7 hl w hv

set_option maxHeartbeats 1000000 in
theorem return_out (v : Value) (l : List UInt8) (b z0 : Int) (k : Nat) (y0 y1 : Nat) (h : ringF l.length b z0 = 70) (hl : l.length ≤ 140737488355328) (w : World) (hv : IsArg w v l) :
    Calls Try.prog 9 #[.agg #[v], .int .i64 b, .int .i64 z0, .int .u16 (k : Nat), .agg #[.int .u32 (y0 : Nat), .int .u32 (y1 : Nat)]] w (Wrote w v l l 70) := by
  have HV := Lib.hid hv
  have HL := Lib.hid hl
  have HMX := Lib.hid (show l.length ≤ maxLen by unfold maxLen; omega)
  have HF := Lib.hid h
  obtain ⟨va, vc, rfl, _⟩ := hv.shape
  obtain ⟨t1, t2, t3, t4⟩ := three_new w (.slice va l.length vc) #[.int .u32 (y0 : Nat), .int .u32 (y1 : Nat)] (.slice none 0 0) 28 25 28
  have HB := Lib.hid t4
  have HM := Lib.hid t1
  have HH := Lib.hid t2
  have HR := Lib.hid t3
  clear hv hl h t1 t2 t3 t4
  go_enter Try.func9, Try.ntmps9
  go_wp2_with fail
  refine (ringFault_any _ _ _ HMX.out _ _ _ HF.out _).mono ?_
  rintro e w1 ⟨rfl, hb⟩
  replace HM := Lib.hid (row_keep HM.out hb)
  replace HH := Lib.hid (row_keep HH.out hb)
  replace HR := Lib.hid (row_keep HR.out hb)
  replace HB := Lib.hid (HB.out.trans (hb.mono HB.out.size))
  clear hb
  obtain ⟨c0, _⟩ := one_cell HM.out
  go_wp2_with fail
  refine (ringSame_any _ l _ (HV.out.below HB.out) HL.out).mono ?_
  rintro e w2 ⟨r, rfl, hr, hb⟩
  have HR2 := Lib.hid (row_keep HR.out hb)
  have HB2 := Lib.hid (HB.out.trans (hb.mono HB.out.size))
  have HO := Lib.hid (ownsRow_base (base' := w.heap.size) hr HB.out.size)
  obtain ⟨ra, rc, rfl, _⟩ := (isArg_of_owns hr).shape
  obtain ⟨r0, f0⟩ := one_cell HR2.out
  clear hb hr c0
  go_wp2
  refine bodyPost_ret (v := .tuple #[.agg #[.slice ra l.length rc], .int .i64 70]) (by simp [results, Try.results9, go_sem, r0]) rfl ⟨ra, rc, rfl, .inr (owns_far HO.out HR2.out tneMU _), HB2.out.setCell (by simp; omega) _⟩
structure RngReturnX where
  b0 : Bool
  b1 : Bool
  b2 : Bool
  b3 : Bool
  b4 : Bool
  b5 : Bool
  b6 : Bool
  b7 : Bool
  b8 : Bool
  b9 : Bool
  s22 : Value
  s23 : Value
  s24 : Value
  s25 : Value
  s26 : Value
  s27 : Value
  s28 : Value
  s29 : Value
  s11 : Value

set_option maxHeartbeats 4000000 in
set_option maxRecDepth 100000 in
theorem return_in (v : Value) (l : List UInt8) (w : World) (hv : IsArg w v l) (B N at_ : Nat) (hok : RingOk l.length B N) (hi : at_ < 65536) (y0 y1 : Nat) (hy0 : y0 < 4294967296) (hy1 : y1 < 4294967296) :
    Calls Try.prog 9 #[.agg #[v], .int .i64 (B : Nat), .int .i64 (N : Nat), .int .u16 (at_ : Nat), .agg #[.int .u32 (y0 : Nat), .int .u32 (y1 : Nat)]] w (Wrote w v l (returnD l B N at_ y0 y1) 0) := by
  obtain ⟨ix, hix⟩ : ∃ p, p = B + secN N + 2 := ⟨_, rfl⟩
  obtain ⟨sq, hsq⟩ : ∃ p, p = B + secN N + 4 := ⟨_, rfl⟩
  obtain ⟨p, hp⟩ : ∃ p, B + secN N + 4 + 8 * (at_ % N) = p := ⟨_, rfl⟩
  obtain ⟨H, hH⟩ : ∃ H, H = returnD l B N at_ y0 y1 := ⟨_, rfl⟩
  rw [← hH]
  have hN := hok.right.le
  have hsz := sizeN_le N
  have hfit := hok.fits
  have hL := hok.few
  have HL := Lib.hid hL
  have HB8 := Lib.hid (show B ≤ 8192 by omega)
  have HN := Lib.hid hN
  have HMX := Lib.hid (show l.length ≤ maxLen by unfold maxLen; omega)
  have HF := Lib.hid (show ringF l.length (B : Int) (N : Int) = 0 by rw [ringF, if_pos hok.ok])
  have HV := Lib.hid hv
  obtain ⟨j, hj⟩ : ∃ j, at_ % N = j := ⟨_, rfl⟩
  have hjn : j < N := by rw [← hj]; exact Nat.mod_lt _ (by omega)
  rw [hj] at hp
  have HJ := Lib.hid hj
  have HI := Lib.hid hi
  have HQ := Lib.hid (show ((j : Nat) : Int) * 8 = ((8 * j : Nat) : Int) by omega)
  have HT := Lib.hid (show ((B + secN N + 4 : Nat) : Int) + ((8 * j : Nat) : Int) = (p : Nat) by omega)
  have HQ1 := Lib.hid (show -9223372036854775808 ≤ ((8 * j : Nat) : Int) ∧ ((8 * j : Nat) : Int) ≤ 9223372036854775807 by omega)
  have HT1 := Lib.hid (show -9223372036854775808 ≤ ((p : Nat) : Int) ∧ ((p : Nat) : Int) ≤ 9223372036854775807 by omega)
  have hpl : p + 8 ≤ l.length := by omega
  have HPL := Lib.hid hpl
  have hixl : ix + 2 ≤ l.length := by omega
  have hpe : sq + 8 * j = p := by omega
  have HP := Lib.hid (show ∀ W, Calls Try.prog 30 #[.int .i64 (B : Nat), .int .i64 (N : Nat)] W fun e w' => ∃ a b, e = .returned (.agg #[.int .i64 (ix : Nat), .func (.func 64) #[] #[.pointer (some ⟨a, 0, none⟩), .pointer (some ⟨b, 0, none⟩)]]) ∧ RowAt w' a b (sq : Nat) 8 ∧ Below W.heap.size W w' from fun W => usedPart_any B N ix sq hix.symm hsq.symm (by omega) hN.2 W)
  obtain ⟨va, vc, rfl, _⟩ := hv.shape
  obtain ⟨t1, t2, t3, t4⟩ := three_new w (.slice va l.length vc) #[.int .u32 (y0 : Nat), .int .u32 (y1 : Nat)] (.slice none 0 0) 28 25 28
  have HB := Lib.hid t4
  have HM := Lib.hid t1
  have HH := Lib.hid t2
  have HR := Lib.hid t3
  have hHH : H = putAt (putAt (putAt l p 4 y0) (p + 4) 4 y1) ix 2 (at_ + 1) := by rw [hH, returnD, hj, hix, ← hp]
  have HLA := Lib.hid (show ∀ W, Below w.heap.size w W → W.heap[w.heap.size + 1]? = some (.cells #[.int .u32 (y0 : Nat), .int .u32 (y1 : Nat)] 25) → ∀ a b, RowAt W a b (sq : Nat) 8 → Calls Try.prog 33 #[.agg #[.slice va l.length vc], .agg #[.int .i64 (ix : Nat), .func (.func 64) #[] #[.pointer (some ⟨a, 0, none⟩), .pointer (some ⟨b, 0, none⟩)]], .int .i64 (N : Nat), .int .u16 (at_ : Nat), .func (.func 36) #[] #[.pointer (some ⟨w.heap.size + 1, 0, none⟩)]] W fun e w' => ∃ ra rc, e = .returned (.agg #[.slice ra l.length rc]) ∧ Given w' w.heap.size (.slice va l.length vc) l (.slice ra l.length rc) H ∧ Below W.heap.size W w' from
    fun W hb hh a b hr => (laid_return _ l W (hv.below hb) hL ix sq a b N at_ j p (w.heap.size + 1) hr hN hi hj hpe hpl hixl y0 y1 hy0 hy1 hh).mono fun e w' ⟨ra, rc, h1, h2, h3⟩ => ⟨ra, rc, h1, by rw [hHH]; exact h2.base hb.size, h3⟩)
  clear hN hsz hfit hL hv hj hi hpl hok hp hjn hix hsq hixl hpe hH hHH t1 t2 t3 t4 hy0 hy1
  go_enter Try.func9, Try.ntmps9
  go_wp2_with fail
  refine (ringFault_any _ _ _ HMX.out _ _ _ HF.out _).mono ?_
  rintro e w1 ⟨rfl, hb⟩
  replace HM := Lib.hid (row_keep HM.out hb)
  replace HH := Lib.hid (row_keep HH.out hb)
  replace HR := Lib.hid (row_keep HR.out hb)
  replace HB := Lib.hid (HB.out.trans (hb.mono HB.out.size))
  clear hb
  have HMW := Lib.hid (show ∀ W, Below w1.heap.size w1 W → W.heap[w.heap.size]? = some (.cells #[.slice va l.length vc] 28 (0, 0)) from fun W h => row_keep HM.out h)
  have HRW := Lib.hid (show ∀ W, Below w1.heap.size w1 W → W.heap[w.heap.size + 1 + 1]? = some (.cells #[.slice none 0 0] 28) from fun W h => row_keep HR.out h)
  have HLD := Lib.hid (show ∀ W, Below w1.heap.size w1 W → ∀ a b, RowAt W a b (sq : Nat) 8 → Calls Try.prog 33 #[.agg #[.slice va l.length vc], .agg #[.int .i64 (ix : Nat), .func (.func 64) #[] #[.pointer (some ⟨a, 0, none⟩), .pointer (some ⟨b, 0, none⟩)]], .int .i64 (N : Nat), .int .u16 (at_ : Nat), .func (.func 36) #[] #[.pointer (some ⟨w.heap.size + 1, 0, none⟩)]] W fun e w' => ∃ ra rc, e = .returned (.agg #[.slice ra l.length rc]) ∧ Given w' w.heap.size (.slice va l.length vc) l (.slice ra l.length rc) H ∧ Below W.heap.size W w' from fun W h => HLA.out W (HB.out.trans (h.mono HB.out.size)) (row_keep HH.out h))
  clear HLA
  go_wp2_with fail
  refine wp_region_rec (X := RngReturnX) (by kernel_rfl) (by kernel_rfl) (fun x => #[x.b0, x.b1, x.b2, x.b3, x.b4, x.b5, x.b6, x.b7, x.b8, x.b9]) (fun x => { tmps := #[.agg #[.slice va l.length vc], .int .i64 (B : Nat), .int .i64 (N : Nat), .int .u16 (at_ : Nat), .agg #[.int .u32 (y0 : Nat), .int .u32 (y1 : Nat)], .pointer (some ⟨w.heap.size, 0, none⟩), undef, undef, undef, .pointer (some ⟨w.heap.size + 1, 0, none⟩), .pointer (some ⟨w.heap.size + 1 + 1, 0, none⟩), x.s11, .int .i64 0, .agg #[.slice va l.length vc], .int .i64 (B : Nat), .int .i64 (N : Nat), .int .i64 0, .int .i64 0, .bool false, undef, undef, undef, x.s22, x.s23, x.s24, x.s25, x.s26, x.s27, x.s28, x.s29], defers := [] }) (fun x W => (x.b0 = true → x.s22 = .agg #[.slice va l.length vc]) ∧ (x.b1 = true → x.s23 = .int .i64 (B : Nat)) ∧ (x.b2 = true → x.s24 = .int .i64 (N : Nat)) ∧ (x.b4 = true → x.s26 = .int .i64 (N : Nat)) ∧ (x.b5 = true → x.s27 = .int .u16 (at_ : Nat)) ∧ (x.b6 = true → x.s28 = .func (.func 36) #[] #[.pointer (some ⟨w.heap.size + 1, 0, none⟩)]) ∧ (x.b9 = true → x.s11 = .int .i64 0) ∧ (x.b8 = true → x.b0 = true ∧ x.b3 = true ∧ x.b7 = true) ∧ (x.b7 = false → x.b3 = true → ∃ a b, x.s25 = .agg #[.int .i64 (ix : Nat), .func (.func 64) #[] #[.pointer (some ⟨a, 0, none⟩), .pointer (some ⟨b, 0, none⟩)]] ∧ RowAt W a b (sq : Nat) 8) ∧ (x.b7 = true → ∃ ra rc, x.s29 = .agg #[.slice ra l.length rc] ∧ Given W w.heap.size (.slice va l.length vc) l (.slice ra l.length rc) H) ∧ (x.b8 = true → ∃ ra rc, W.heap[w.heap.size + 1 + 1]? = some (.cells #[.slice ra l.length rc] 28 (0, 0)) ∧ Given W w.heap.size (.slice va l.length vc) l (.slice ra l.length rc) H) ∧ (x.b8 = false → Below w1.heap.size w1 W) ∧ (Below w.heap.size w W) ∧ (x.b7 = true → x.b3 = true)) ⟨false, false, false, false, false, false, false, false, false, false, undef, undef, undef, undef, undef, undef, undef, undef, .int .i64 0⟩ rfl rfl ⟨(fun h => by cases h), (fun h => by cases h), (fun h => by cases h), (fun h => by cases h), (fun h => by cases h), (fun h => by cases h), (fun h => by cases h), (fun h => by cases h), (fun _ h => by cases h), (fun h => by cases h), (fun h => by cases h), (fun _ => (Below.refl _ _).drew), HB.out.drew, (fun h => by cases h)⟩ (fun _ => rfl) ?hstep ?hdone
  case hstep =>
    rintro ⟨b0, b1, b2, b3, b4, b5, b6, b7, b8, b9, s22, s23, s24, s25, s26, s27, s28, s29, s11⟩ W hI i hi
    dsimp only at hI hi ⊢
    have HI := Lib.hid hI
    clear hI
    rw [Region.ready, List.mem_filter, List.mem_range] at hi
    obtain ⟨hlt, hp⟩ := hi
    have hi7 : i = 0 ∨ i = 1 ∨ i = 2 ∨ i = 3 ∨ i = 4 ∨ i = 5 ∨ i = 6 ∨ i = 7 ∨ i = 8 ∨ i = 9 := by simp at hlt; omega
    clear hlt
    rcases hi7 with rfl | rfl | rfl | rfl | rfl | rfl | rfl | rfl | rfl | rfl
    all_goals simp [Region.binds] at hp
    · have hn0 : b0 = false := by revert hp; cases b0 <;> simp
      clear hp
      subst hn0
      refine inv_op (o := ⟨some 22, _, _, _, _, _⟩) rfl (fun K' hK' => ?_)
      have gE := HI.out.2.2.2.2.2.2.2.1
      have gW := HI.out.2.2.2.2.2.2.2.2.2.2.2.1
      have hb8 : b8 = false := by cases b8 with | false => rfl | true => exact absurd (gE rfl).1 (by decide)
      subst hb8
      obtain ⟨hc1, hc2⟩ := one_cell (HMW.out W (gW rfl))
      go_simp
      obtain ⟨h0, h1, h2, h4, h5, h6, h9, gE, gR, gL, gB, gW, gO, gC⟩ := HI.out
      exact hK'.out _ _ ⟨⟨true, b1, b2, b3, b4, b5, b6, b7, false, b9, _, s23, s24, s25, s26, s27, s28, s29, s11⟩, rfl, rfl, (fun _ => rfl), h1, h2, h4, h5, h6, h9, (fun e => by cases e), gR, gL, gB, gW, gO, gC⟩
    · have hn1 : b1 = false := by revert hp; cases b1 <;> simp
      clear hp
      subst hn1
      refine inv_op (o := ⟨some 23, _, _, _, _, _⟩) rfl (fun K' hK' => ?_)
      go_simp
      obtain ⟨h0, h1, h2, h4, h5, h6, h9, gE, gR, gL, gB, gW, gO, gC⟩ := HI.out
      exact hK'.out _ _ ⟨⟨b0, true, b2, b3, b4, b5, b6, b7, b8, b9, s22, _, s24, s25, s26, s27, s28, s29, s11⟩, rfl, rfl, h0, (fun _ => rfl), h2, h4, h5, h6, h9, gE, gR, gL, gB, gW, gO, gC⟩
    · have hn2 : b2 = false := by revert hp; cases b2 <;> simp
      clear hp
      subst hn2
      refine inv_op (o := ⟨some 24, _, _, _, _, _⟩) rfl (fun K' hK' => ?_)
      go_simp
      obtain ⟨h0, h1, h2, h4, h5, h6, h9, gE, gR, gL, gB, gW, gO, gC⟩ := HI.out
      exact hK'.out _ _ ⟨⟨b0, b1, true, b3, b4, b5, b6, b7, b8, b9, s22, s23, _, s25, s26, s27, s28, s29, s11⟩, rfl, rfl, h0, h1, (fun _ => rfl), h4, h5, h6, h9, gE, gR, gL, gB, gW, gO, gC⟩
    · have hn3 : b3 = false := by revert hp; cases b3 <;> simp
      have e1 : b1 = true := by revert hp; cases b1 <;> simp
      have e2 : b2 = true := by revert hp; cases b2 <;> simp
      clear hp
      obtain rfl := (HI.out.2.1) e1
      obtain rfl := (HI.out.2.2.1) e2
      subst hn3
      refine inv_op (o := ⟨some 25, _, _, _, _, _⟩) rfl (fun K' hK' => ?_)
      have gE := HI.out.2.2.2.2.2.2.2.1
      have gC := HI.out.2.2.2.2.2.2.2.2.2.2.2.2.2
      have hb8 : b8 = false := by cases b8 with | false => rfl | true => exact absurd (gE rfl).2.1 (by decide)
      subst hb8
      have hb7 : b7 = false := by cases b7 with | false => rfl | true => exact absurd (gC rfl) (by decide)
      subst hb7
      go_simp
      refine (HP.out W).mono ?_
      rintro e w2 ⟨a, b, rfl, hr, bn⟩
      obtain ⟨h0, h1, h2, h4, h5, h6, h9, gE, gR, gL, gB, gW, gO, gC⟩ := HI.out
      exact hK'.out _ _ ⟨⟨b0, b1, b2, true, b4, b5, b6, false, false, b9, s22, _, _, _, s26, s27, s28, s29, s11⟩, rfl, rfl, h0, h1, h2, h4, h5, h6, h9, (fun e => by cases e), (fun _ _ => ⟨a, b, rfl, hr⟩), (fun e => by cases e), (fun e => by cases e), (fun e => (gW e).trans (bn.mono (gW e).size)), (gO.trans (bn.mono gO.size)), (fun _ => rfl)⟩
    · have hn4 : b4 = false := by revert hp; cases b4 <;> simp
      clear hp
      subst hn4
      refine inv_op (o := ⟨some 26, _, _, _, _, _⟩) rfl (fun K' hK' => ?_)
      go_simp
      obtain ⟨h0, h1, h2, h4, h5, h6, h9, gE, gR, gL, gB, gW, gO, gC⟩ := HI.out
      exact hK'.out _ _ ⟨⟨b0, b1, b2, b3, true, b5, b6, b7, b8, b9, s22, s23, s24, s25, _, s27, s28, s29, s11⟩, rfl, rfl, h0, h1, h2, (fun _ => rfl), h5, h6, h9, gE, gR, gL, gB, gW, gO, gC⟩
    · have hn5 : b5 = false := by revert hp; cases b5 <;> simp
      clear hp
      subst hn5
      refine inv_op (o := ⟨some 27, _, _, _, _, _⟩) rfl (fun K' hK' => ?_)
      go_simp
      obtain ⟨h0, h1, h2, h4, h5, h6, h9, gE, gR, gL, gB, gW, gO, gC⟩ := HI.out
      exact hK'.out _ _ ⟨⟨b0, b1, b2, b3, b4, true, b6, b7, b8, b9, s22, s23, s24, s25, s26, _, s28, s29, s11⟩, rfl, rfl, h0, h1, h2, h4, (fun _ => rfl), h6, h9, gE, gR, gL, gB, gW, gO, gC⟩
    · have hn6 : b6 = false := by revert hp; cases b6 <;> simp
      clear hp
      subst hn6
      refine inv_op (o := ⟨some 28, _, _, _, _, _⟩) rfl (fun K' hK' => ?_)
      go_simp
      obtain ⟨h0, h1, h2, h4, h5, h6, h9, gE, gR, gL, gB, gW, gO, gC⟩ := HI.out
      exact hK'.out _ _ ⟨⟨b0, b1, b2, b3, b4, b5, true, b7, b8, b9, s22, s23, s24, s25, s26, s27, _, s29, s11⟩, rfl, rfl, h0, h1, h2, h4, h5, (fun _ => rfl), h9, gE, gR, gL, gB, gW, gO, gC⟩
    · have hn7 : b7 = false := by revert hp; cases b7 <;> simp
      have e0 : b0 = true := by revert hp; cases b0 <;> simp
      have e3 : b3 = true := by revert hp; cases b3 <;> simp
      have e4 : b4 = true := by revert hp; cases b4 <;> simp
      have e5 : b5 = true := by revert hp; cases b5 <;> simp
      have e6 : b6 = true := by revert hp; cases b6 <;> simp
      clear hp
      obtain rfl := (HI.out.1) e0
      obtain rfl := (HI.out.2.2.2.1) e4
      obtain rfl := (HI.out.2.2.2.2.1) e5
      obtain rfl := (HI.out.2.2.2.2.2.1) e6
      subst hn7
      refine inv_op (o := ⟨some 29, _, _, _, _, _⟩) rfl (fun K' hK' => ?_)
      have gE := HI.out.2.2.2.2.2.2.2.1
      have gR := HI.out.2.2.2.2.2.2.2.2.1
      have gW := HI.out.2.2.2.2.2.2.2.2.2.2.2.1
      have hb8 : b8 = false := by cases b8 with | false => rfl | true => exact absurd (gE rfl).2.2 (by decide)
      subst hb8
      obtain ⟨a, b, rfl, hr⟩ := gR rfl e3
      go_simp
      refine (HLD.out W (gW rfl) a b hr).mono ?_
      rintro e w2 ⟨ra, rc, rfl, hg, bn⟩
      obtain ⟨h0, h1, h2, h4, h5, h6, h9, gE, gR, gL, gB, gW, gO, gC⟩ := HI.out
      exact hK'.out _ _ ⟨⟨b0, b1, b2, b3, b4, b5, b6, true, false, b9, _, s23, s24, _, _, _, _, _, s11⟩, rfl, rfl, h0, h1, h2, h4, h5, h6, h9, (fun e => by cases e), (fun e => by cases e), (fun _ => ⟨ra, rc, rfl, hg⟩), (fun e => by cases e), (fun e => (gW e).trans (bn.mono (gW e).size)), (gO.trans (bn.mono gO.size)), (fun _ => e3)⟩
    · have hn8 : b8 = false := by revert hp; cases b8 <;> simp
      have e0 : b0 = true := by revert hp; cases b0 <;> simp
      have e1 : b1 = true := by revert hp; cases b1 <;> simp
      have e2 : b2 = true := by revert hp; cases b2 <;> simp
      have e3 : b3 = true := by revert hp; cases b3 <;> simp
      have e4 : b4 = true := by revert hp; cases b4 <;> simp
      have e5 : b5 = true := by revert hp; cases b5 <;> simp
      have e6 : b6 = true := by revert hp; cases b6 <;> simp
      have e7 : b7 = true := by revert hp; cases b7 <;> simp
      clear hp
      subst hn8
      refine inv_op (o := ⟨none, _, _, _, _, _⟩) rfl (fun K' hK' => ?_)
      have gL := HI.out.2.2.2.2.2.2.2.2.2.1
      have gW := HI.out.2.2.2.2.2.2.2.2.2.2.2.1
      obtain ⟨ra, rc, rfl, hg⟩ := gL e7
      obtain ⟨hc1, hc2⟩ := one_cell (HRW.out W (gW rfl))
      have hrow := HRW.out W (gW rfl)
      go_simp
      obtain ⟨h0, h1, h2, h4, h5, h6, h9, gE, gR, gL, gB, gW, gO, gC⟩ := HI.out
      exact hK'.out _ _ ⟨⟨b0, b1, b2, b3, b4, b5, b6, b7, true, b9, s22, s23, s24, s25, s26, s27, s28, _, s11⟩, rfl, rfl, h0, h1, h2, h4, h5, h6, h9, (fun _ => ⟨e0, e3, e7⟩), (fun e7b _ => by rw [e7] at e7b; cases e7b), (fun _ => ⟨ra, rc, rfl, hg.far hrow tneMU _⟩), (fun _ => ⟨ra, rc, one_set hrow _, hg.far hrow tneMU _⟩), (fun e => by cases e), (gO.setCell (by simp; omega) _), gC⟩
    · have hn9 : b9 = false := by revert hp; cases b9 <;> simp
      clear hp
      subst hn9
      refine inv_op (o := ⟨some 11, _, _, _, _, _⟩) rfl (fun K' hK' => ?_)
      go_simp
      obtain ⟨h0, h1, h2, h4, h5, h6, h9, gE, gR, gL, gB, gW, gO, gC⟩ := HI.out
      exact hK'.out _ _ ⟨⟨b0, b1, b2, b3, b4, b5, b6, b7, b8, true, s22, s23, s24, s25, s26, s27, s28, s29, _⟩, rfl, rfl, h0, h1, h2, h4, h5, h6, (fun _ => rfl), gE, gR, gL, gB, gW, gO, gC⟩
  case hdone =>
    rintro ⟨b0, b1, b2, b3, b4, b5, b6, b7, b8, b9, s22, s23, s24, s25, s26, s27, s28, s29, s11⟩ W hI hall
    dsimp only at hI hall ⊢
    have HI := Lib.hid hI
    clear hI
    obtain rfl : b0 = true := hall 0 (by decide)
    obtain rfl : b1 = true := hall 1 (by decide)
    obtain rfl : b2 = true := hall 2 (by decide)
    obtain rfl : b3 = true := hall 3 (by decide)
    obtain rfl : b4 = true := hall 4 (by decide)
    obtain rfl : b5 = true := hall 5 (by decide)
    obtain rfl : b6 = true := hall 6 (by decide)
    obtain rfl : b7 = true := hall 7 (by decide)
    obtain rfl : b8 = true := hall 8 (by decide)
    obtain rfl : b9 = true := hall 9 (by decide)
    obtain rfl := (HI.out.2.2.2.2.2.2.1) rfl
    have gB := HI.out.2.2.2.2.2.2.2.2.2.2.1
    have gO := HI.out.2.2.2.2.2.2.2.2.2.2.2.2.1
    clear HI hall
    obtain ⟨ra, rc, hrow, hg⟩ := gB rfl
    obtain ⟨r0, f0⟩ := one_cell hrow
    have HG := Lib.hid hg
    have HO := Lib.hid gO
    clear hrow hg gB gO f0
    go_wp2
    refine bodyPost_ret (v := .tuple #[.agg #[.slice ra l.length rc], .int .i64 0]) (by simp [results, Try.results9, go_sem, r0]) rfl ⟨ra, rc, rfl, HG.out, HO.out⟩
theorem return_any (v : Value) (l : List UInt8) (b z0 : Int) (k : Nat) (hk : k < 65536) (y0 y1 : Nat) (hy0 : y0 < 4294967296) (hy1 : y1 < 4294967296) (F : Int) (G : List UInt8) (hF : ringF l.length b z0 = F) (hG : returnX l b z0 k y0 y1 = G) (hl : l.length ≤ 140737488355328) (w : World) (hv : IsArg w v l) :
    Calls Try.prog 9 #[.agg #[v], .int .i64 b, .int .i64 z0, .int .u16 (k : Nat), .agg #[.int .u32 (y0 : Nat), .int .u32 (y1 : Nat)]] w (Wrote w v l G F) := by
  by_cases h0 : F = 0
  · subst h0
    obtain ⟨B, N, rfl, rfl, hok⟩ := ring_in hF
    rw [returnX, if_pos hF, Int.toNat_natCast, Int.toNat_natCast] at hG
    rw [← hG]
    exact return_in v l w hv B N k hok hk y0 y1 hy0 hy1
  · have h7 := ringF_two (by rw [hF]; exact h0)
    obtain rfl : F = 70 := by omega
    rw [returnX, if_neg (by rw [h7]; decide)] at hG
    subst hG
    exact return_out v l b z0 k y0 y1 h7 hl w hv
end Go.Proofs.Ytofeiheomnpggaa
