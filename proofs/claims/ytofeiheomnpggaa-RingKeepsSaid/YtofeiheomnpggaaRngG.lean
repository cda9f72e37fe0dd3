/- What is read of a ring: the indices; the faults of what is read. -/
import Derived.Test.YtofeiheomnpggaaRngF
namespace Go.Proofs.Ytofeiheomnpggaa
open Go.RowKit Go.Lib

set_option maxHeartbeats 1000000 in
theorem availAt_out (a : Option Addr) (n c : Nat) (hn : n ≤ maxLen) (b z : Int) (k : Nat) (h : ringF n b z = 70) (w : World) :
    Calls Try.prog 10 #[.agg #[.slice a n c], .int .i64 b, .int .i64 z, .int .u16 (k : Nat)] w fun e w' => e = .returned (.tuple #[.int .i64 0, .int .i64 70]) ∧ Below w.heap.size w w' := by
  have HB0 := Lib.hid ((Below.refl w.heap.size w).alloc (Nat.le_refl _) (.cells #[.slice a n c] 28))
  have HN := Lib.hid hn
  have H := Lib.hid h
  clear hn h
  go_enter Try.func10, Try.ntmps10
  go_wp2_with fail
  refine (ringFault_any _ _ _ HN.out _ _ _ H.out _).mono ?_
  rintro e w1 ⟨rfl, hb⟩
  have HB1 := Lib.hid (HB0.out.trans (hb.mono (by simp)))
  clear hb
  go_wp2
  go_ret2
  exact ⟨rfl, HB1.out⟩
set_option maxHeartbeats 1000000 in
theorem usedAt_out (a : Option Addr) (n c : Nat) (hn : n ≤ maxLen) (b z : Int) (k : Nat) (h : ringF n b z = 70) (w : World) :
    Calls Try.prog 11 #[.agg #[.slice a n c], .int .i64 b, .int .i64 z, .int .u16 (k : Nat)] w fun e w' => e = .returned (.tuple #[.agg #[.int .u32 0, .int .u32 0], .int .i64 70]) ∧ Below w.heap.size w w' := by
  have HB0 := Lib.hid (((Below.refl w.heap.size w).alloc (Nat.le_refl _) (.cells #[.slice a n c] 28)).alloc (by simp) (.cells #[.int .u32 0, .int .u32 0] 25))
  have HN := Lib.hid hn
  have H := Lib.hid h
  clear hn h
  go_enter Try.func11, Try.ntmps11
  go_wp2_with fail
  refine (ringFault_any _ _ _ HN.out _ _ _ H.out _).mono ?_
  rintro e w1 ⟨rfl, hb⟩
  have hr1 := row_keep (heap_alloc_new (w.alloc (.cells #[.slice a n c] 28)) (.cells #[.int .u32 0, .int .u32 0] 25)) hb
  have HR1 := Lib.hid (show w1.heap[w.heap.size + 1]? = some (.cells #[.int .u32 0, .int .u32 0] 25) by simpa using hr1)
  have HB1 := Lib.hid (HB0.out.trans (hb.mono (by simp; omega)))
  obtain ⟨r0, g0⟩ := at_cell HR1.out 0 _ rfl
  obtain ⟨r1, g1⟩ := at_cell HR1.out 1 _ rfl
  clear hb hr1
  go_wp2
  refine bodyPost_ret (v := .tuple #[.agg #[.int .u32 0, .int .u32 0], .int .i64 70]) (by simp [results, Try.results11, go_sem, r0, r1]) rfl ⟨rfl, ?_⟩
  exact (HB1.out.setCell (by simp) _).setCell (by simp) _
theorem ringF_two {L : Nat} {b z : Int} (h : ringF L b z ≠ 0) : ringF L b z = 70 := by
  rcases ring_cases L b z with ⟨_, h1⟩ | ⟨_, _, _, _, _, h1⟩
  · exact h1
  · exact absurd h1 h
theorem ring_in {L : Nat} {b z : Int} (h : ringF L b z = 0) : ∃ B N : Nat, b = B ∧ z = N ∧ RingOk L B N := by
  rcases ring_cases L b z with ⟨_, h1⟩ | ⟨B, N, h2, h3, h4, _⟩
  · omega
  · exact ⟨B, N, h2, h3, h4⟩
theorem availAt_any (v : Value) (l : List UInt8) (b z : Int) (k : Nat) (hk : k < 65536) (F : Int) (y : Nat) (hF : ringF l.length b z = F) (hy : availAtX l b z k = y) (hl : l.length ≤ maxLen) (w : World) (hv : IsArg w v l) :
    Calls Try.prog 10 #[.agg #[v], .int .i64 b, .int .i64 z, .int .u16 (k : Nat)] w fun e w' => e = .returned (.tuple #[.int .i64 (y : Nat), .int .i64 F]) ∧ Below w.heap.size w w' := by
  by_cases h0 : F = 0
  · subst h0
    obtain ⟨B, N, rfl, rfl, hok⟩ := ring_in hF
    rw [availAtX, if_pos hF, Int.toNat_natCast, Int.toNat_natCast] at hy
    exact availAt_in v l w hv B N k _ hok hk rfl y hy
  · have h7 := ringF_two (by rw [hF]; exact h0)
    obtain rfl : F = 70 := by omega
    rw [availAtX, if_neg (by rw [h7]; decide)] at hy
    subst hy
    obtain ⟨a, c, rfl, _⟩ := hv.shape
    exact availAt_out a l.length c hl b z k h7 w
theorem usedAt_any (v : Value) (l : List UInt8) (b z : Int) (k : Nat) (hk : k < 65536) (F : Int) (x0 x1 : Nat) (hF : ringF l.length b z = F) (h0 : usedAtX l b z k 0 = x0) (h1 : usedAtX l b z k 4 = x1) (hl : l.length ≤ maxLen) (w : World) (hv : IsArg w v l) :
    Calls Try.prog 11 #[.agg #[v], .int .i64 b, .int .i64 z, .int .u16 (k : Nat)] w fun e w' => e = .returned (.tuple #[.agg #[.int .u32 (x0 : Nat), .int .u32 (x1 : Nat)], .int .i64 F]) ∧ Below w.heap.size w w' := by
  by_cases hz : F = 0
  · subst hz
    obtain ⟨B, N, rfl, rfl, hok⟩ := ring_in hF
    rw [usedAtX, if_pos hF, Int.toNat_natCast, Int.toNat_natCast] at h0 h1
    exact usedAt_in v l w hv B N k _ hok hk rfl x0 x1 h0 h1
  · have h7 := ringF_two (by rw [hF]; exact hz)
    obtain rfl : F = 70 := by omega
    rw [usedAtX, if_neg (by rw [h7]; decide)] at h0 h1
    subst h0
    subst h1
    obtain ⟨a, c, rfl, _⟩ := hv.shape
    exact usedAt_out a l.length c hl b z k h7 w

set_option maxHeartbeats 1000000 in
theorem index_out_avail (a : Option Addr) (n c : Nat) (hn : n ≤ maxLen) (b z : Int) (h : ringF n b z = 70) (w : World) :
    Calls Try.prog 39 #[.agg #[.slice a n c], .int .i64 b, .int .i64 z, .func (.func 34) #[] #[]] w fun e w' => e = .returned (.tuple #[.int .u16 0, .int .i64 70]) ∧ Below w.heap.size w w' := by
  have HB0 := Lib.hid ((Below.refl w.heap.size w).alloc (Nat.le_refl _) (.cells #[.slice a n c] 28))
  have HN := Lib.hid hn
  have H := Lib.hid h
  clear hn h
  go_enter Try.func39, Try.ntmps39
  go_wp2_with fail
  refine (ringFault_any _ _ _ HN.out _ _ _ H.out _).mono ?_
  rintro e w1 ⟨rfl, hb⟩
  have HB1 := Lib.hid (HB0.out.trans (hb.mono (by simp)))
  clear hb
  go_wp2
  go_ret2
  exact ⟨rfl, HB1.out⟩
structure RngAvailX where
  b0 : Bool
  b1 : Bool
  b2 : Bool
  b3 : Bool
  b4 : Bool
  b5 : Bool
  b6 : Bool
  b7 : Bool
  b8 : Bool
  b9 : Bool
  b10 : Bool
  s18 : Value
  s19 : Value
  s20 : Value
  s21 : Value
  s22 : Value
  s23 : Value
  s24 : Value
  s25 : Value
  s26 : Value
  s8 : Value
  s9 : Value

set_option maxHeartbeats 4000000 in
set_option maxRecDepth 100000 in
theorem index_in_avail (v : Value) (l : List UInt8) (w : World) (hv : IsArg w v l) (B N p : Nat) (hok : RingOk l.length B N) (hp : B + 16 * N + 2 = p) (y : Nat) (hy : numAt l p 2 = y) :
    Calls Try.prog 39 #[.agg #[v], .int .i64 (B : Nat), .int .i64 (N : Nat), .func (.func 34) #[] #[]] w fun e w' => e = .returned (.tuple #[.int .u16 (y : Nat), .int .i64 0]) ∧ Below w.heap.size w w' := by
  have hN := hok.right.le
  have hsz := sizeN_le N
  have hfit := hok.fits
  have hL := hok.few
  have HL := Lib.hid hL
  have HB8 := Lib.hid (show B ≤ 8192 by omega)
  have HN := Lib.hid hN
  have HMX := Lib.hid (show l.length ≤ maxLen by unfold maxLen; omega)
  have HF := Lib.hid (show ringF l.length (B : Int) (N : Int) = 0 by rw [ringF, if_pos hok.ok])
  have HV := Lib.hid hv
  have hpl : p + 2 ≤ l.length := by omega
  have HP := Lib.hid (show ∀ W, Calls Try.prog 34 #[.int .i64 (B : Nat), .int .i64 (N : Nat)] W fun e w' => ∃ a b, e = .returned (.agg #[.int .i64 (p : Nat), .func (.func 64) #[] #[.pointer (some ⟨a, 0, none⟩), .pointer (some ⟨b, 0, none⟩)]]) ∧ RowAt w' a b (B + 16 * N + 4 : Nat) 2 ∧ Below W.heap.size W w' from fun W => availPart_any B N p _ hp rfl (by omega) hN.2 W)
  have hy2 : y < 65536 := by rw [← hy]; exact numAt_lt l p 2
  have hyw : IntKind.u16.wrap ((y : Nat) : Int) = (y : Nat) := IntWalk.u16_in _ (by omega)
  have HB0 := Lib.hid ((Below.refl w.heap.size w).alloc (Nat.le_refl _) (.cells #[v] 28))
  have HPL := Lib.hid hpl
  have HY := Lib.hid hy
  obtain ⟨va, vc, rfl, _⟩ := hv.shape
  clear hN hsz hfit hL hv hpl hok hy hp
  go_enter Try.func39, Try.ntmps39
  go_wp2_with fail
  refine (ringFault_any _ _ _ HMX.out _ _ _ HF.out _).mono ?_
  rintro e w1 ⟨rfl, hb⟩
  have hr0 := row_keep (heap_alloc_new w (.cells #[.slice va l.length vc] 28)) hb
  have HB1 := Lib.hid (HB0.out.trans (hb.mono (by simp)))
  have HM := Lib.hid (show ∀ W, Below w1.heap.size w1 W → W.cell? ⟨w.heap.size, 0, none⟩ = some (.slice va l.length vc) ∧ W.frozen? ⟨w.heap.size, 0, none⟩ = false from fun W h => one_cell (row_keep hr0 h))
  have HG := Lib.hid (show ∀ W, Below w1.heap.size w1 W → Calls Try.prog 37 #[.agg #[.slice va l.length vc], .int .i64 (p : Nat)] W fun e w' => ∃ a b, e = .returned (.func (.func 53) #[] #[.pointer (some ⟨a, 0, none⟩), .pointer (some ⟨b, 0, none⟩)]) ∧ GetAt w' a b (.slice va l.length vc) p ∧ W.heap.size ≤ a ∧ W.heap.size ≤ b ∧ Below W.heap.size W w' from fun W h => getter_any _ l p W (HV.out.below (HB1.out.trans (h.mono HB1.out.size))))
  have HN2 := Lib.hid (show ∀ W, Below w1.heap.size w1 W → ∀ ga gb, GetAt W ga gb (.slice va l.length vc) p → Calls Try.prog 53 #[.int .i64 2, .pointer (some ⟨ga, 0, none⟩), .pointer (some ⟨gb, 0, none⟩)] W fun e w' => e = .returned (.int .u64 (y : Nat)) ∧ Save1 W w' gb from fun W h ga gb hg => (get_num ga gb _ l p 2 (p + 2) rfl HL.out HPL.out (by decide) (by decide) W (HV.out.below (HB1.out.trans (h.mono HB1.out.size))) hg).mono fun e w' ⟨h1, _, h3⟩ => by rw [HY.out] at h1; exact ⟨h1, h3⟩)
  clear hb hr0
  go_wp2_with fail
  refine wp_region_rec (X := RngAvailX) (by kernel_rfl) (by kernel_rfl) (fun x => #[x.b0, x.b1, x.b2, x.b3, x.b4, x.b5, x.b6, x.b7, x.b8, x.b9, x.b10]) (fun x => { tmps := #[.agg #[.slice va l.length vc], .int .i64 (B : Nat), .int .i64 (N : Nat), .func (.func 34) #[] #[], .pointer (some ⟨w.heap.size, 0, none⟩), undef, undef, undef, x.s8, x.s9, .int .i64 0, .agg #[.slice va l.length vc], .int .i64 (B : Nat), .int .i64 (N : Nat), .int .i64 0, .int .i64 0, .bool false, undef, x.s18, x.s19, x.s20, x.s21, x.s22, x.s23, x.s24, x.s25, x.s26], defers := [] }) (fun x W => (x.b0 = true → x.s18 = .agg #[.slice va l.length vc]) ∧ (x.b1 = true → x.s19 = .func (.func 34) #[] #[]) ∧ (x.b2 = true → x.s20 = .int .i64 (B : Nat)) ∧ (x.b3 = true → x.s21 = .int .i64 (N : Nat)) ∧ (x.b5 = true → x.s23 = .int .i64 (p : Nat)) ∧ (x.b7 = true → x.s25 = .int .u64 (y : Nat)) ∧ (x.b8 = true → x.s26 = .int .u16 (y : Nat)) ∧ (x.b9 = true → x.s8 = .int .u16 (y : Nat)) ∧ (x.b10 = true → x.s9 = .int .i64 0) ∧ (x.b4 = true → ∃ a b, x.s22 = .agg #[.int .i64 (p : Nat), .func (.func 64) #[] #[.pointer (some ⟨a, 0, none⟩), .pointer (some ⟨b, 0, none⟩)]]) ∧ (x.b7 = false → x.b6 = true → ∃ ga gb, x.s24 = .func (.func 53) #[] #[.pointer (some ⟨ga, 0, none⟩), .pointer (some ⟨gb, 0, none⟩)] ∧ GetAt W ga gb (.slice va l.length vc) p ∧ w1.heap.size ≤ gb) ∧ (Below w1.heap.size w1 W)) ⟨false, false, false, false, false, false, false, false, false, false, false, undef, undef, undef, undef, undef, undef, undef, undef, undef, .int .u16 0, .int .i64 0⟩ rfl rfl ⟨(fun h => by cases h), (fun h => by cases h), (fun h => by cases h), (fun h => by cases h), (fun h => by cases h), (fun h => by cases h), (fun h => by cases h), (fun h => by cases h), (fun h => by cases h), (fun h => by cases h), (fun _ h => by cases h), (Below.refl _ _).drew⟩ (fun _ => rfl) ?hstep ?hdone
  case hstep =>
    rintro ⟨b0, b1, b2, b3, b4, b5, b6, b7, b8, b9, b10, s18, s19, s20, s21, s22, s23, s24, s25, s26, s8, s9⟩ W hI i hi
    dsimp only at hI hi ⊢
    have HI := Lib.hid hI
    clear hI
    rw [Region.ready, List.mem_filter, List.mem_range] at hi
    obtain ⟨hlt, hp⟩ := hi
    have hi7 : i = 0 ∨ i = 1 ∨ i = 2 ∨ i = 3 ∨ i = 4 ∨ i = 5 ∨ i = 6 ∨ i = 7 ∨ i = 8 ∨ i = 9 ∨ i = 10 := by simp at hlt; omega
    clear hlt
    rcases hi7 with rfl | rfl | rfl | rfl | rfl | rfl | rfl | rfl | rfl | rfl | rfl
    all_goals simp [Region.binds] at hp
    · have hn0 : b0 = false := by revert hp; cases b0 <;> simp
      clear hp
      subst hn0
      refine inv_op (o := ⟨some 18, _, _, _, _, _⟩) rfl (fun K' hK' => ?_)
      have gW := HI.out.2.2.2.2.2.2.2.2.2.2.2
      obtain ⟨hc1, hc2⟩ := HM.out W gW
      go_simp
      obtain ⟨h0, h1, h2, h3, h5, h7, h8, h9, h10, gR, gG, gW⟩ := HI.out
      exact hK'.out _ _ ⟨⟨true, b1, b2, b3, b4, b5, b6, b7, b8, b9, b10, _, s19, s20, s21, s22, s23, s24, s25, s26, s8, s9⟩, rfl, rfl, (fun _ => rfl), h1, h2, h3, h5, h7, h8, h9, h10, gR, gG, gW⟩
    · have hn1 : b1 = false := by revert hp; cases b1 <;> simp
      clear hp
      subst hn1
      refine inv_op (o := ⟨some 19, _, _, _, _, _⟩) rfl (fun K' hK' => ?_)
      go_simp
      obtain ⟨h0, h1, h2, h3, h5, h7, h8, h9, h10, gR, gG, gW⟩ := HI.out
      exact hK'.out _ _ ⟨⟨b0, true, b2, b3, b4, b5, b6, b7, b8, b9, b10, s18, _, s20, s21, s22, s23, s24, s25, s26, s8, s9⟩, rfl, rfl, h0, (fun _ => rfl), h2, h3, h5, h7, h8, h9, h10, gR, gG, gW⟩
    · have hn2 : b2 = false := by revert hp; cases b2 <;> simp
      clear hp
      subst hn2
      refine inv_op (o := ⟨some 20, _, _, _, _, _⟩) rfl (fun K' hK' => ?_)
      go_simp
      obtain ⟨h0, h1, h2, h3, h5, h7, h8, h9, h10, gR, gG, gW⟩ := HI.out
      exact hK'.out _ _ ⟨⟨b0, b1, true, b3, b4, b5, b6, b7, b8, b9, b10, s18, s19, _, s21, s22, s23, s24, s25, s26, s8, s9⟩, rfl, rfl, h0, h1, (fun _ => rfl), h3, h5, h7, h8, h9, h10, gR, gG, gW⟩
    · have hn3 : b3 = false := by revert hp; cases b3 <;> simp
      clear hp
      subst hn3
      refine inv_op (o := ⟨some 21, _, _, _, _, _⟩) rfl (fun K' hK' => ?_)
      go_simp
      obtain ⟨h0, h1, h2, h3, h5, h7, h8, h9, h10, gR, gG, gW⟩ := HI.out
      exact hK'.out _ _ ⟨⟨b0, b1, b2, true, b4, b5, b6, b7, b8, b9, b10, s18, s19, s20, _, s22, s23, s24, s25, s26, s8, s9⟩, rfl, rfl, h0, h1, h2, (fun _ => rfl), h5, h7, h8, h9, h10, gR, gG, gW⟩
    · have hn4 : b4 = false := by revert hp; cases b4 <;> simp
      have e1 : b1 = true := by revert hp; cases b1 <;> simp
      have e2 : b2 = true := by revert hp; cases b2 <;> simp
      have e3 : b3 = true := by revert hp; cases b3 <;> simp
      clear hp
      obtain rfl := (HI.out.2.1) e1
      obtain rfl := (HI.out.2.2.1) e2
      obtain rfl := (HI.out.2.2.2.1) e3
      subst hn4
      refine inv_op (o := ⟨some 22, _, _, _, _, _⟩) rfl (fun K' hK' => ?_)
      go_simp
      refine (HP.out W).mono ?_
      rintro e w2 ⟨a, b, rfl, hr, bn⟩
      obtain ⟨h0, h1, h2, h3, h5, h7, h8, h9, h10, gR, gG, gW⟩ := HI.out
      exact hK'.out _ _ ⟨⟨b0, b1, b2, b3, true, b5, b6, b7, b8, b9, b10, s18, _, _, _, _, s23, s24, s25, s26, s8, s9⟩, rfl, rfl, h0, h1, h2, h3, h5, h7, h8, h9, h10, (fun _ => ⟨a, b, rfl⟩), (fun e7 e6 => by obtain ⟨ga, gb, h1, h2, h3⟩ := gG e7 e6; exact ⟨ga, gb, h1, h2.below bn, h3⟩), (gW.trans (bn.mono gW.size))⟩
    · have hn5 : b5 = false := by revert hp; cases b5 <;> simp
      have e4 : b4 = true := by revert hp; cases b4 <;> simp
      clear hp
      subst hn5
      refine inv_op (o := ⟨some 23, _, _, _, _, _⟩) rfl (fun K' hK' => ?_)
      have gR := HI.out.2.2.2.2.2.2.2.2.2.1
      obtain ⟨a, b, rfl⟩ := gR e4
      have hfi := field_index
      go_simp
      obtain ⟨h0, h1, h2, h3, h5, h7, h8, h9, h10, gR, gG, gW⟩ := HI.out
      exact hK'.out _ _ ⟨⟨b0, b1, b2, b3, b4, true, b6, b7, b8, b9, b10, s18, s19, s20, s21, _, _, s24, s25, s26, s8, s9⟩, rfl, rfl, h0, h1, h2, h3, (fun _ => rfl), h7, h8, h9, h10, gR, gG, gW⟩
    · have hn6 : b6 = false := by revert hp; cases b6 <;> simp
      have e0 : b0 = true := by revert hp; cases b0 <;> simp
      have e5 : b5 = true := by revert hp; cases b5 <;> simp
      clear hp
      obtain rfl := (HI.out.1) e0
      obtain rfl := (HI.out.2.2.2.2.1) e5
      subst hn6
      refine inv_op (o := ⟨some 24, _, _, _, _, _⟩) rfl (fun K' hK' => ?_)
      have gW := HI.out.2.2.2.2.2.2.2.2.2.2.2
      go_simp
      refine (HG.out W gW).mono ?_
      rintro e w2 ⟨ga, gb, rfl, hg, h1, hb, bn⟩
      obtain ⟨h0, h1, h2, h3, h5, h7, h8, h9, h10, gR, gG, gW⟩ := HI.out
      exact hK'.out _ _ ⟨⟨b0, b1, b2, b3, b4, b5, true, b7, b8, b9, b10, _, s19, s20, s21, s22, _, _, s25, s26, s8, s9⟩, rfl, rfl, h0, h1, h2, h3, h5, h7, h8, h9, h10, gR, (fun _ _ => ⟨ga, gb, rfl, hg, Nat.le_trans gW.size hb⟩), (gW.trans (bn.mono gW.size))⟩
    · have hn7 : b7 = false := by revert hp; cases b7 <;> simp
      have e6 : b6 = true := by revert hp; cases b6 <;> simp
      clear hp
      subst hn7
      refine inv_op (o := ⟨some 25, _, _, _, _, _⟩) rfl (fun K' hK' => ?_)
      have gG := HI.out.2.2.2.2.2.2.2.2.2.2.1
      have gW := HI.out.2.2.2.2.2.2.2.2.2.2.2
      obtain ⟨ga, gb, rfl, hg, hb⟩ := gG rfl e6
      go_simp
      refine (HN2.out W gW ga gb hg).mono ?_
      rintro e w2 ⟨rfl, hs⟩
      obtain ⟨h0, h1, h2, h3, h5, h7, h8, h9, h10, gR, gG, gW⟩ := HI.out
      exact hK'.out _ _ ⟨⟨b0, b1, b2, b3, b4, b5, b6, true, b8, b9, b10, s18, s19, s20, s21, s22, s23, _, _, s26, s8, s9⟩, rfl, rfl, h0, h1, h2, h3, h5, (fun _ => rfl), h8, h9, h10, gR, (fun e => by cases e), (hs.below gW hb gW.size)⟩
    · have hn8 : b8 = false := by revert hp; cases b8 <;> simp
      have e7 : b7 = true := by revert hp; cases b7 <;> simp
      clear hp
      obtain rfl := (HI.out.2.2.2.2.2.1) e7
      subst hn8
      refine inv_op (o := ⟨some 26, _, _, _, _, _⟩) rfl (fun K' hK' => ?_)
      go_simp
      obtain ⟨h0, h1, h2, h3, h5, h7, h8, h9, h10, gR, gG, gW⟩ := HI.out
      exact hK'.out _ _ ⟨⟨b0, b1, b2, b3, b4, b5, b6, b7, true, b9, b10, s18, s19, s20, s21, s22, s23, s24, _, _, s8, s9⟩, rfl, rfl, h0, h1, h2, h3, h5, h7, (fun _ => rfl), h9, h10, gR, gG, gW⟩
    · have hn9 : b9 = false := by revert hp; cases b9 <;> simp
      have e8 : b8 = true := by revert hp; cases b8 <;> simp
      clear hp
      obtain rfl := (HI.out.2.2.2.2.2.2.1) e8
      subst hn9
      refine inv_op (o := ⟨some 8, _, _, _, _, _⟩) rfl (fun K' hK' => ?_)
      go_simp
      obtain ⟨h0, h1, h2, h3, h5, h7, h8, h9, h10, gR, gG, gW⟩ := HI.out
      exact hK'.out _ _ ⟨⟨b0, b1, b2, b3, b4, b5, b6, b7, b8, true, b10, s18, s19, s20, s21, s22, s23, s24, s25, _, _, s9⟩, rfl, rfl, h0, h1, h2, h3, h5, h7, h8, (fun _ => rfl), h10, gR, gG, gW⟩
    · have hn10 : b10 = false := by revert hp; cases b10 <;> simp
      clear hp
      subst hn10
      refine inv_op (o := ⟨some 9, _, _, _, _, _⟩) rfl (fun K' hK' => ?_)
      go_simp
      obtain ⟨h0, h1, h2, h3, h5, h7, h8, h9, h10, gR, gG, gW⟩ := HI.out
      exact hK'.out _ _ ⟨⟨b0, b1, b2, b3, b4, b5, b6, b7, b8, b9, true, s18, s19, s20, s21, s22, s23, s24, s25, s26, s8, _⟩, rfl, rfl, h0, h1, h2, h3, h5, h7, h8, h9, (fun _ => rfl), gR, gG, gW⟩
  case hdone =>
    rintro ⟨b0, b1, b2, b3, b4, b5, b6, b7, b8, b9, b10, s18, s19, s20, s21, s22, s23, s24, s25, s26, s8, s9⟩ W hI hall
    dsimp only at hI hall ⊢
    have HI := Lib.hid hI
    clear hI
    obtain rfl : b0 = true := hall 0 (by decide)
    obtain rfl : b1 = true := hall 1 (by decide)
    obtain rfl : b2 = true := hall 2 (by decide)
    obtain rfl : b3 = true := hall 3 (by decide)
    obtain rfl : b4 = true := hall 4 (by decide)
    obtain rfl : b5 = true := hall 5 (by decide)
    obtain rfl : b6 = true := hall 6 (by decide)
    obtain rfl : b7 = true := hall 7 (by decide)
    obtain rfl : b8 = true := hall 8 (by decide)
    obtain rfl : b9 = true := hall 9 (by decide)
    obtain rfl : b10 = true := hall 10 (by decide)
    obtain rfl := (HI.out.2.2.2.2.2.2.2.1) rfl
    obtain rfl := (HI.out.2.2.2.2.2.2.2.2.1) rfl
    have gW := HI.out.2.2.2.2.2.2.2.2.2.2.2
    clear HI hall
    have HW := Lib.hid (HB1.out.trans (gW.mono HB1.out.size))
    clear gW
    go_wp2
    go_ret2
    exact ⟨rfl, HW.out⟩
theorem avail_any (v : Value) (l : List UInt8) (b z : Int) (F : Int) (y : Nat) (hF : ringF l.length b z = F) (hy : availX l b z = y) (hl : l.length ≤ maxLen) (w : World) (hv : IsArg w v l) :
    Calls Try.prog 12 #[.agg #[v], .int .i64 b, .int .i64 z] w fun e w' => e = .returned (.tuple #[.int .u16 (y : Nat), .int .i64 F]) ∧ Below w.heap.size w w' := by
  have HX := Lib.hid (show ∀ W, IsArg W v l → Calls Try.prog 39 #[.agg #[v], .int .i64 b, .int .i64 z, .func (.func 34) #[] #[]] W fun e w' => e = .returned (.tuple #[.int .u16 (y : Nat), .int .i64 F]) ∧ Below W.heap.size W w' from by
    intro W hW
    by_cases h0 : F = 0
    · subst h0
      obtain ⟨B, N, rfl, rfl, hok⟩ := ring_in hF
      rw [availX, if_pos hF, Int.toNat_natCast, Int.toNat_natCast] at hy
      exact index_in_avail v l W hW B N _ hok rfl y hy
    · have h7 := ringF_two (by rw [hF]; exact h0)
      obtain rfl : F = 70 := by omega
      rw [availX, if_neg (by rw [h7]; decide)] at hy
      subst hy
      obtain ⟨a, c, rfl, _⟩ := hW.shape
      exact index_out_avail a l.length c hl b z h7 W)
  have HV := Lib.hid hv
  have HB0 := Lib.hid ((Below.refl w.heap.size w).alloc (Nat.le_refl _) (.cells #[v] 28))
  obtain ⟨a, c, rfl, _⟩ := hv.shape
  clear hF hy hl hv
  go_enter Try.func12, Try.ntmps12
  go_wp2_with fail
  refine (HX.out _ (HV.out.below HB0.out)).mono ?_
  rintro e w1 ⟨rfl, hb⟩
  have HB1 := Lib.hid (HB0.out.trans (hb.mono (by simp)))
  clear hb
  go_wp2
  go_ret2
  exact ⟨rfl, HB1.out⟩

set_option maxHeartbeats 1000000 in
theorem index_out_used (a : Option Addr) (n c : Nat) (hn : n ≤ maxLen) (b z : Int) (h : ringF n b z = 70) (w : World) :
    Calls Try.prog 39 #[.agg #[.slice a n c], .int .i64 b, .int .i64 z, .func (.func 30) #[] #[]] w fun e w' => e = .returned (.tuple #[.int .u16 0, .int .i64 70]) ∧ Below w.heap.size w w' := by
  have HB0 := Lib.hid ((Below.refl w.heap.size w).alloc (Nat.le_refl _) (.cells #[.slice a n c] 28))
  have HN := Lib.hid hn
  have H := Lib.hid h
  clear hn h
  go_enter Try.func39, Try.ntmps39
  go_wp2_with fail
  refine (ringFault_any _ _ _ HN.out _ _ _ H.out _).mono ?_
  rintro e w1 ⟨rfl, hb⟩
  have HB1 := Lib.hid (HB0.out.trans (hb.mono (by simp)))
  clear hb
  go_wp2
  go_ret2
  exact ⟨rfl, HB1.out⟩
structure RngUsedX where
  b0 : Bool
  b1 : Bool
  b2 : Bool
  b3 : Bool
  b4 : Bool
  b5 : Bool
  b6 : Bool
  b7 : Bool
  b8 : Bool
  b9 : Bool
  b10 : Bool
  s18 : Value
  s19 : Value
  s20 : Value
  s21 : Value
  s22 : Value
  s23 : Value
  s24 : Value
  s25 : Value
  s26 : Value
  s8 : Value
  s9 : Value

set_option maxHeartbeats 4000000 in
set_option maxRecDepth 100000 in
theorem index_in_used (v : Value) (l : List UInt8) (w : World) (hv : IsArg w v l) (B N p : Nat) (hok : RingOk l.length B N) (hp : B + secN N + 2 = p) (y : Nat) (hy : numAt l p 2 = y) :
    Calls Try.prog 39 #[.agg #[v], .int .i64 (B : Nat), .int .i64 (N : Nat), .func (.func 30) #[] #[]] w fun e w' => e = .returned (.tuple #[.int .u16 (y : Nat), .int .i64 0]) ∧ Below w.heap.size w w' := by
  have hN := hok.right.le
  have hsz := sizeN_le N
  have hfit := hok.fits
  have hL := hok.few
  have HL := Lib.hid hL
  have HB8 := Lib.hid (show B ≤ 8192 by omega)
  have HN := Lib.hid hN
  have HMX := Lib.hid (show l.length ≤ maxLen by unfold maxLen; omega)
  have HF := Lib.hid (show ringF l.length (B : Int) (N : Int) = 0 by rw [ringF, if_pos hok.ok])
  have HV := Lib.hid hv
  have hpl : p + 2 ≤ l.length := by omega
  have HP := Lib.hid (show ∀ W, Calls Try.prog 30 #[.int .i64 (B : Nat), .int .i64 (N : Nat)] W fun e w' => ∃ a b, e = .returned (.agg #[.int .i64 (p : Nat), .func (.func 64) #[] #[.pointer (some ⟨a, 0, none⟩), .pointer (some ⟨b, 0, none⟩)]]) ∧ RowAt w' a b (B + secN N + 4 : Nat) 8 ∧ Below W.heap.size W w' from fun W => usedPart_any B N p _ hp rfl (by omega) hN.2 W)
  have hy2 : y < 65536 := by rw [← hy]; exact numAt_lt l p 2
  have hyw : IntKind.u16.wrap ((y : Nat) : Int) = (y : Nat) := IntWalk.u16_in _ (by omega)
  have HB0 := Lib.hid ((Below.refl w.heap.size w).alloc (Nat.le_refl _) (.cells #[v] 28))
  have HPL := Lib.hid hpl
  have HY := Lib.hid hy
  obtain ⟨va, vc, rfl, _⟩ := hv.shape
  clear hN hsz hfit hL hv hpl hok hy hp
  go_enter Try.func39, Try.ntmps39
  go_wp2_with fail
  refine (ringFault_any _ _ _ HMX.out _ _ _ HF.out _).mono ?_
  rintro e w1 ⟨rfl, hb⟩
  have hr0 := row_keep (heap_alloc_new w (.cells #[.slice va l.length vc] 28)) hb
  have HB1 := Lib.hid (HB0.out.trans (hb.mono (by simp)))
  have HM := Lib.hid (show ∀ W, Below w1.heap.size w1 W → W.cell? ⟨w.heap.size, 0, none⟩ = some (.slice va l.length vc) ∧ W.frozen? ⟨w.heap.size, 0, none⟩ = false from fun W h => one_cell (row_keep hr0 h))
  have HG := Lib.hid (show ∀ W, Below w1.heap.size w1 W → Calls Try.prog 37 #[.agg #[.slice va l.length vc], .int .i64 (p : Nat)] W fun e w' => ∃ a b, e = .returned (.func (.func 53) #[] #[.pointer (some ⟨a, 0, none⟩), .pointer (some ⟨b, 0, none⟩)]) ∧ GetAt w' a b (.slice va l.length vc) p ∧ W.heap.size ≤ a ∧ W.heap.size ≤ b ∧ Below W.heap.size W w' from fun W h => getter_any _ l p W (HV.out.below (HB1.out.trans (h.mono HB1.out.size))))
  have HN2 := Lib.hid (show ∀ W, Below w1.heap.size w1 W → ∀ ga gb, GetAt W ga gb (.slice va l.length vc) p → Calls Try.prog 53 #[.int .i64 2, .pointer (some ⟨ga, 0, none⟩), .pointer (some ⟨gb, 0, none⟩)] W fun e w' => e = .returned (.int .u64 (y : Nat)) ∧ Save1 W w' gb from fun W h ga gb hg => (get_num ga gb _ l p 2 (p + 2) rfl HL.out HPL.out (by decide) (by decide) W (HV.out.below (HB1.out.trans (h.mono HB1.out.size))) hg).mono fun e w' ⟨h1, _, h3⟩ => by rw [HY.out] at h1; exact ⟨h1, h3⟩)
  clear hb hr0
  go_wp2_with fail
  refine wp_region_rec (X := RngUsedX) (by kernel_rfl) (by kernel_rfl) (fun x => #[x.b0, x.b1, x.b2, x.b3, x.b4, x.b5, x.b6, x.b7, x.b8, x.b9, x.b10]) (fun x => { tmps := #[.agg #[.slice va l.length vc], .int .i64 (B : Nat), .int .i64 (N : Nat), .func (.func 30) #[] #[], .pointer (some ⟨w.heap.size, 0, none⟩), undef, undef, undef, x.s8, x.s9, .int .i64 0, .agg #[.slice va l.length vc], .int .i64 (B : Nat), .int .i64 (N : Nat), .int .i64 0, .int .i64 0, .bool false, undef, x.s18, x.s19, x.s20, x.s21, x.s22, x.s23, x.s24, x.s25, x.s26], defers := [] }) (fun x W => (x.b0 = true → x.s18 = .agg #[.slice va l.length vc]) ∧ (x.b1 = true → x.s19 = .func (.func 30) #[] #[]) ∧ (x.b2 = true → x.s20 = .int .i64 (B : Nat)) ∧ (x.b3 = true → x.s21 = .int .i64 (N : Nat)) ∧ (x.b5 = true → x.s23 = .int .i64 (p : Nat)) ∧ (x.b7 = true → x.s25 = .int .u64 (y : Nat)) ∧ (x.b8 = true → x.s26 = .int .u16 (y : Nat)) ∧ (x.b9 = true → x.s8 = .int .u16 (y : Nat)) ∧ (x.b10 = true → x.s9 = .int .i64 0) ∧ (x.b4 = true → ∃ a b, x.s22 = .agg #[.int .i64 (p : Nat), .func (.func 64) #[] #[.pointer (some ⟨a, 0, none⟩), .pointer (some ⟨b, 0, none⟩)]]) ∧ (x.b7 = false → x.b6 = true → ∃ ga gb, x.s24 = .func (.func 53) #[] #[.pointer (some ⟨ga, 0, none⟩), .pointer (some ⟨gb, 0, none⟩)] ∧ GetAt W ga gb (.slice va l.length vc) p ∧ w1.heap.size ≤ gb) ∧ (Below w1.heap.size w1 W)) ⟨false, false, false, false, false, false, false, false, false, false, false, undef, undef, undef, undef, undef, undef, undef, undef, undef, .int .u16 0, .int .i64 0⟩ rfl rfl ⟨(fun h => by cases h), (fun h => by cases h), (fun h => by cases h), (fun h => by cases h), (fun h => by cases h), (fun h => by cases h), (fun h => by cases h), (fun h => by cases h), (fun h => by cases h), (fun h => by cases h), (fun _ h => by cases h), (Below.refl _ _).drew⟩ (fun _ => rfl) ?hstep ?hdone
  case hstep =>
    rintro ⟨b0, b1, b2, b3, b4, b5, b6, b7, b8, b9, b10, s18, s19, s20, s21, s22, s23, s24, s25, s26, s8, s9⟩ W hI i hi
    dsimp only at hI hi ⊢
    have HI := Lib.hid hI
    clear hI
    rw [Region.ready, List.mem_filter, List.mem_range] at hi
    obtain ⟨hlt, hp⟩ := hi
    have hi7 : i = 0 ∨ i = 1 ∨ i = 2 ∨ i = 3 ∨ i = 4 ∨ i = 5 ∨ i = 6 ∨ i = 7 ∨ i = 8 ∨ i = 9 ∨ i = 10 := by simp at hlt; omega
    clear hlt
    rcases hi7 with rfl | rfl | rfl | rfl | rfl | rfl | rfl | rfl | rfl | rfl | rfl
    all_goals simp [Region.binds] at hp
    · have hn0 : b0 = false := by revert hp; cases b0 <;> simp
      clear hp
      subst hn0
      refine inv_op (o := ⟨some 18, _, _, _, _, _⟩) rfl (fun K' hK' => ?_)
      have gW := HI.out.2.2.2.2.2.2.2.2.2.2.2
      obtain ⟨hc1, hc2⟩ := HM.out W gW
      go_simp
      obtain ⟨h0, h1, h2, h3, h5, h7, h8, h9, h10, gR, gG, gW⟩ := HI.out
      exact hK'.out _ _ ⟨⟨true, b1, b2, b3, b4, b5, b6, b7, b8, b9, b10, _, s19, s20, s21, s22, s23, s24, s25, s26, s8, s9⟩, rfl, rfl, (fun _ => rfl), h1, h2, h3, h5, h7, h8, h9, h10, gR, gG, gW⟩
    · have hn1 : b1 = false := by revert hp; cases b1 <;> simp
      clear hp
      subst hn1
      refine inv_op (o := ⟨some 19, _, _, _, _, _⟩) rfl (fun K' hK' => ?_)
      go_simp
      obtain ⟨h0, h1, h2, h3, h5, h7, h8, h9, h10, gR, gG, gW⟩ := HI.out
      exact hK'.out _ _ ⟨⟨b0, true, b2, b3, b4, b5, b6, b7, b8, b9, b10, s18, _, s20, s21, s22, s23, s24, s25, s26, s8, s9⟩, rfl, rfl, h0, (fun _ => rfl), h2, h3, h5, h7, h8, h9, h10, gR, gG, gW⟩
    · have hn2 : b2 = false := by revert hp; cases b2 <;> simp
      clear hp
      subst hn2
      refine inv_op (o := ⟨some 20, _, _, _, _, _⟩) rfl (fun K' hK' => ?_)
      go_simp
      obtain ⟨h0, h1, h2, h3, h5, h7, h8, h9, h10, gR, gG, gW⟩ := HI.out
      exact hK'.out _ _ ⟨⟨b0, b1, true, b3, b4, b5, b6, b7, b8, b9, b10, s18, s19, _, s21, s22, s23, s24, s25, s26, s8, s9⟩, rfl, rfl, h0, h1, (fun _ => rfl), h3, h5, h7, h8, h9, h10, gR, gG, gW⟩
    · have hn3 : b3 = false := by revert hp; cases b3 <;> simp
      clear hp
      subst hn3
      refine inv_op (o := ⟨some 21, _, _, _, _, _⟩) rfl (fun K' hK' => ?_)
      go_simp
      obtain ⟨h0, h1, h2, h3, h5, h7, h8, h9, h10, gR, gG, gW⟩ := HI.out
      exact hK'.out _ _ ⟨⟨b0, b1, b2, true, b4, b5, b6, b7, b8, b9, b10, s18, s19, s20, _, s22, s23, s24, s25, s26, s8, s9⟩, rfl, rfl, h0, h1, h2, (fun _ => rfl), h5, h7, h8, h9, h10, gR, gG, gW⟩
    · have hn4 : b4 = false := by revert hp; cases b4 <;> simp
      have e1 : b1 = true := by revert hp; cases b1 <;> simp
      have e2 : b2 = true := by revert hp; cases b2 <;> simp
      have e3 : b3 = true := by revert hp; cases b3 <;> simp
      clear hp
      obtain rfl := (HI.out.2.1) e1
      obtain rfl := (HI.out.2.2.1) e2
      obtain rfl := (HI.out.2.2.2.1) e3
      subst hn4
      refine inv_op (o := ⟨some 22, _, _, _, _, _⟩) rfl (fun K' hK' => ?_)
      go_simp
      refine (HP.out W).mono ?_
      rintro e w2 ⟨a, b, rfl, hr, bn⟩
      obtain ⟨h0, h1, h2, h3, h5, h7, h8, h9, h10, gR, gG, gW⟩ := HI.out
      exact hK'.out _ _ ⟨⟨b0, b1, b2, b3, true, b5, b6, b7, b8, b9, b10, s18, _, _, _, _, s23, s24, s25, s26, s8, s9⟩, rfl, rfl, h0, h1, h2, h3, h5, h7, h8, h9, h10, (fun _ => ⟨a, b, rfl⟩), (fun e7 e6 => by obtain ⟨ga, gb, h1, h2, h3⟩ := gG e7 e6; exact ⟨ga, gb, h1, h2.below bn, h3⟩), (gW.trans (bn.mono gW.size))⟩
    · have hn5 : b5 = false := by revert hp; cases b5 <;> simp
      have e4 : b4 = true := by revert hp; cases b4 <;> simp
      clear hp
      subst hn5
      refine inv_op (o := ⟨some 23, _, _, _, _, _⟩) rfl (fun K' hK' => ?_)
      have gR := HI.out.2.2.2.2.2.2.2.2.2.1
      obtain ⟨a, b, rfl⟩ := gR e4
      have hfi := field_index
      go_simp
      obtain ⟨h0, h1, h2, h3, h5, h7, h8, h9, h10, gR, gG, gW⟩ := HI.out
      exact hK'.out _ _ ⟨⟨b0, b1, b2, b3, b4, true, b6, b7, b8, b9, b10, s18, s19, s20, s21, _, _, s24, s25, s26, s8, s9⟩, rfl, rfl, h0, h1, h2, h3, (fun _ => rfl), h7, h8, h9, h10, gR, gG, gW⟩
    · have hn6 : b6 = false := by revert hp; cases b6 <;> simp
      have e0 : b0 = true := by revert hp; cases b0 <;> simp
      have e5 : b5 = true := by revert hp; cases b5 <;> simp
      clear hp
      obtain rfl := (HI.out.1) e0
      obtain rfl := (HI.out.2.2.2.2.1) e5
      subst hn6
      refine inv_op (o := ⟨some 24, _, _, _, _, _⟩) rfl (fun K' hK' => ?_)
      have gW := HI.out.2.2.2.2.2.2.2.2.2.2.2
      go_simp
      refine (HG.out W gW).mono ?_
      rintro e w2 ⟨ga, gb, rfl, hg, h1, hb, bn⟩
      obtain ⟨h0, h1, h2, h3, h5, h7, h8, h9, h10, gR, gG, gW⟩ := HI.out
      exact hK'.out _ _ ⟨⟨b0, b1, b2, b3, b4, b5, true, b7, b8, b9, b10, _, s19, s20, s21, s22, _, _, s25, s26, s8, s9⟩, rfl, rfl, h0, h1, h2, h3, h5, h7, h8, h9, h10, gR, (fun _ _ => ⟨ga, gb, rfl, hg, Nat.le_trans gW.size hb⟩), (gW.trans (bn.mono gW.size))⟩
    · have hn7 : b7 = false := by revert hp; cases b7 <;> simp
      have e6 : b6 = true := by revert hp; cases b6 <;> simp
      clear hp
      subst hn7
      refine inv_op (o := ⟨some 25, _, _, _, _, _⟩) rfl (fun K' hK' => ?_)
      have gG := HI.out.2.2.2.2.2.2.2.2.2.2.1
      have gW := HI.out.2.2.2.2.2.2.2.2.2.2.2
      obtain ⟨ga, gb, rfl, hg, hb⟩ := gG rfl e6
      go_simp
      refine (HN2.out W gW ga gb hg).mono ?_
      rintro e w2 ⟨rfl, hs⟩
      obtain ⟨h0, h1, h2, h3, h5, h7, h8, h9, h10, gR, gG, gW⟩ := HI.out
      exact hK'.out _ _ ⟨⟨b0, b1, b2, b3, b4, b5, b6, true, b8, b9, b10, s18, s19, s20, s21, s22, s23, _, _, s26, s8, s9⟩, rfl, rfl, h0, h1, h2, h3, h5, (fun _ => rfl), h8, h9, h10, gR, (fun e => by cases e), (hs.below gW hb gW.size)⟩
    · have hn8 : b8 = false := by revert hp; cases b8 <;> simp
      have e7 : b7 = true := by revert hp; cases b7 <;> simp
      clear hp
      obtain rfl := (HI.out.2.2.2.2.2.1) e7
      subst hn8
      refine inv_op (o := ⟨some 26, _, _, _, _, _⟩) rfl (fun K' hK' => ?_)
      go_simp
      obtain ⟨h0, h1, h2, h3, h5, h7, h8, h9, h10, gR, gG, gW⟩ := HI.out
      exact hK'.out _ _ ⟨⟨b0, b1, b2, b3, b4, b5, b6, b7, true, b9, b10, s18, s19, s20, s21, s22, s23, s24, _, _, s8, s9⟩, rfl, rfl, h0, h1, h2, h3, h5, h7, (fun _ => rfl), h9, h10, gR, gG, gW⟩
    · have hn9 : b9 = false := by revert hp; cases b9 <;> simp
      have e8 : b8 = true := by revert hp; cases b8 <;> simp
      clear hp
      obtain rfl := (HI.out.2.2.2.2.2.2.1) e8
      subst hn9
      refine inv_op (o := ⟨some 8, _, _, _, _, _⟩) rfl (fun K' hK' => ?_)
      go_simp
      obtain ⟨h0, h1, h2, h3, h5, h7, h8, h9, h10, gR, gG, gW⟩ := HI.out
      exact hK'.out _ _ ⟨⟨b0, b1, b2, b3, b4, b5, b6, b7, b8, true, b10, s18, s19, s20, s21, s22, s23, s24, s25, _, _, s9⟩, rfl, rfl, h0, h1, h2, h3, h5, h7, h8, (fun _ => rfl), h10, gR, gG, gW⟩
    · have hn10 : b10 = false := by revert hp; cases b10 <;> simp
      clear hp
      subst hn10
      refine inv_op (o := ⟨some 9, _, _, _, _, _⟩) rfl (fun K' hK' => ?_)
      go_simp
      obtain ⟨h0, h1, h2, h3, h5, h7, h8, h9, h10, gR, gG, gW⟩ := HI.out
      exact hK'.out _ _ ⟨⟨b0, b1, b2, b3, b4, b5, b6, b7, b8, b9, true, s18, s19, s20, s21, s22, s23, s24, s25, s26, s8, _⟩, rfl, rfl, h0, h1, h2, h3, h5, h7, h8, h9, (fun _ => rfl), gR, gG, gW⟩
  case hdone =>
    rintro ⟨b0, b1, b2, b3, b4, b5, b6, b7, b8, b9, b10, s18, s19, s20, s21, s22, s23, s24, s25, s26, s8, s9⟩ W hI hall
    dsimp only at hI hall ⊢
    have HI := Lib.hid hI
    clear hI
    obtain rfl : b0 = true := hall 0 (by decide)
    obtain rfl : b1 = true := hall 1 (by decide)
    obtain rfl : b2 = true := hall 2 (by decide)
    obtain rfl : b3 = true := hall 3 (by decide)
    obtain rfl : b4 = true := hall 4 (by decide)
    obtain rfl : b5 = true := hall 5 (by decide)
    obtain rfl : b6 = true := hall 6 (by decide)
    obtain rfl : b7 = true := hall 7 (by decide)
    obtain rfl : b8 = true := hall 8 (by decide)
    obtain rfl : b9 = true := hall 9 (by decide)
    obtain rfl : b10 = true := hall 10 (by decide)
    obtain rfl := (HI.out.2.2.2.2.2.2.2.1) rfl
    obtain rfl := (HI.out.2.2.2.2.2.2.2.2.1) rfl
    have gW := HI.out.2.2.2.2.2.2.2.2.2.2.2
    clear HI hall
    have HW := Lib.hid (HB1.out.trans (gW.mono HB1.out.size))
    clear gW
    go_wp2
    go_ret2
    exact ⟨rfl, HW.out⟩
theorem used_any (v : Value) (l : List UInt8) (b z : Int) (F : Int) (y : Nat) (hF : ringF l.length b z = F) (hy : usedX l b z = y) (hl : l.length ≤ maxLen) (w : World) (hv : IsArg w v l) :
    Calls Try.prog 22 #[.agg #[v], .int .i64 b, .int .i64 z] w fun e w' => e = .returned (.tuple #[.int .u16 (y : Nat), .int .i64 F]) ∧ Below w.heap.size w w' := by
  have HX := Lib.hid (show ∀ W, IsArg W v l → Calls Try.prog 39 #[.agg #[v], .int .i64 b, .int .i64 z, .func (.func 30) #[] #[]] W fun e w' => e = .returned (.tuple #[.int .u16 (y : Nat), .int .i64 F]) ∧ Below W.heap.size W w' from by
    intro W hW
    by_cases h0 : F = 0
    · subst h0
      obtain ⟨B, N, rfl, rfl, hok⟩ := ring_in hF
      rw [usedX, if_pos hF, Int.toNat_natCast, Int.toNat_natCast] at hy
      exact index_in_used v l W hW B N _ hok rfl y hy
    · have h7 := ringF_two (by rw [hF]; exact h0)
      obtain rfl : F = 70 := by omega
      rw [usedX, if_neg (by rw [h7]; decide)] at hy
      subst hy
      obtain ⟨a, c, rfl, _⟩ := hW.shape
      exact index_out_used a l.length c hl b z h7 W)
  have HV := Lib.hid hv
  have HB0 := Lib.hid ((Below.refl w.heap.size w).alloc (Nat.le_refl _) (.cells #[v] 28))
  obtain ⟨a, c, rfl, _⟩ := hv.shape
  clear hF hy hl hv
  go_enter Try.func22, Try.ntmps22
  go_wp2_with fail
  refine (HX.out _ (HV.out.below HB0.out)).mono ?_
  rintro e w1 ⟨rfl, hb⟩
  have HB1 := Lib.hid (HB0.out.trans (hb.mono (by simp)))
  clear hb
  go_wp2
  go_ret2
  exact ⟨rfl, HB1.out⟩
end Go.Proofs.Ytofeiheomnpggaa
