/- The document's own answers of rings, where they are right. -/
import Derived.Test.YtofeiheomnpggaaRngM
namespace Go.Proofs.Ytofeiheomnpggaa
open Go.RowKit Go.Lib

theorem put4_far {X : World} {r g : Nat} {o : Obj} (h : X.heap[g]? = some o) (hne : r ≠ g) (a b c d : Value) : ((((X.setCell ⟨r, 0, none⟩ a).setCell ⟨r, 1, none⟩ b).setCell ⟨r, 2, none⟩ c).setCell ⟨r, 3, none⟩ d).heap[g]? = some o :=
  one_other (one_other (one_other (one_other h _ _ hne) _ _ hne) _ _ hne) _ _ hne
theorem put4_row {X : World} {r : Nat} {a' b' c' d' : Value} {t : TypeId} (h : X.heap[r]? = some (.cells #[a', b', c', d'] t (0, 0))) (a b c d : Value) : ((((X.setCell ⟨r, 0, none⟩ a).setCell ⟨r, 1, none⟩ b).setCell ⟨r, 2, none⟩ c).setCell ⟨r, 3, none⟩ d).heap[r]? = some (.cells #[a, b, c, d] t (0, 0)) :=
  set_at (set_at (set_at (set_at h 0 a) 1 b) 2 c) 3 d
theorem put2_far {X : World} {r g : Nat} {o : Obj} (h : X.heap[g]? = some o) (hne : r ≠ g) (a b : Value) : ((X.setCell ⟨r, 0, none⟩ a).setCell ⟨r, 1, none⟩ b).heap[g]? = some o :=
  one_other (one_other h _ _ hne) _ _ hne
theorem put2_row {X : World} {r : Nat} {a' b' : Value} {t : TypeId} (h : X.heap[r]? = some (.cells #[a', b'] t (0, 0))) (a b : Value) : ((X.setCell ⟨r, 0, none⟩ a).setCell ⟨r, 1, none⟩ b).heap[r]? = some (.cells #[a, b] t (0, 0)) :=
  set_at (set_at h 0 a) 1 b
structure RngRefDescX where
  b0 : Bool
  b1 : Bool
  b2 : Bool
  b3 : Bool
  b4 : Bool
  b5 : Bool
  b6 : Bool
  b7 : Bool
  b8 : Bool
  b9 : Bool
  b10 : Bool
  b11 : Bool
  b12 : Bool
  b13 : Bool
  b14 : Bool
  b15 : Bool
  b16 : Bool
  b17 : Bool
  b18 : Bool
  b19 : Bool
  b20 : Bool
  s29 : Value
  s30 : Value
  s31 : Value
  s32 : Value
  s33 : Value
  s34 : Value
  s35 : Value
  s36 : Value
  s37 : Value
  s38 : Value
  s39 : Value
  s40 : Value
  s41 : Value
  s42 : Value
  s43 : Value
  s44 : Value
  s45 : Value
  s46 : Value
  s47 : Value
  s9 : Value

set_option maxHeartbeats 4000000 in
set_option maxRecDepth 100000 in
theorem refDesc_in (v : Value) (l : List UInt8) (w : World) (hv : IsArg w v l) (B N : Nat) (hok : RingOk l.length B N) (I : Nat) (hI : I < N) (p : Nat) (hp : B + 16 * I = p) (x0 x1 x2 x3 : Nat) (h0 : numAt l p 8 = x0) (h1 : numAt l (p + 8) 4 = x1) (h2 : numAt l (p + 12) 2 = x2) (h3 : numAt l (p + 14) 2 = x3) :
    Calls Try.prog 15 #[.agg #[v], .int .i64 (B : Nat), .int .i64 (N : Nat), .int .i64 (I : Nat)] w fun e w' => e = .returned (.tuple #[.agg #[.int .u64 (x0 : Nat), .int .u32 (x1 : Nat), .int .u16 (x2 : Nat), .int .u16 (x3 : Nat)], .int .i64 0]) ∧ Below w.heap.size w w' := by
  have hN := hok.right.le
  have hsz := sizeN_le N
  have hfit := hok.fits
  have hL := hok.few
  have HL := Lib.hid hL
  have HNN := Lib.hid hN
  have HMX := Lib.hid (show l.length ≤ maxLen by unfold maxLen; omega)
  have HC := Lib.hid hok.ok
  have HV := Lib.hid hv
  obtain ⟨va, vc, rfl, _⟩ := hv.shape
  have HB := Lib.hid (((Below.refl w.heap.size w).alloc (Nat.le_refl _) (.cells #[.slice va l.length vc] 28)).alloc (by simp) (.cells #[.int .u64 0, .int .u32 0, .int .u16 0, .int .u16 0] 44))
  have HM := Lib.hid (row_keep (heap_alloc_new w (.cells #[.slice va l.length vc] 28)) ((Below.refl _ _).alloc (Nat.le_refl _) (.cells #[.int .u64 0, .int .u32 0, .int .u16 0, .int .u16 0] 44)))
  have HR := Lib.hid (show ((w.alloc (.cells #[.slice va l.length vc] 28)).alloc (.cells #[.int .u64 0, .int .u32 0, .int .u16 0, .int .u16 0] 44)).heap[w.heap.size + 1]? = some (.cells #[.int .u64 0, .int .u32 0, .int .u16 0, .int .u16 0] 44) by simpa using heap_alloc_new (w.alloc (.cells #[.slice va l.length vc] 28)) (.cells #[.int .u64 0, .int .u32 0, .int .u16 0, .int .u16 0] 44))
  obtain ⟨q, hq⟩ : ∃ q, q = 16 * I := ⟨_, rfl⟩
  obtain ⟨p1, hp1⟩ : ∃ q, q = p + 8 := ⟨_, rfl⟩
  obtain ⟨p2, hp2⟩ : ∃ q, q = p + 12 := ⟨_, rfl⟩
  obtain ⟨p3, hp3⟩ : ∃ q, q = p + 14 := ⟨_, rfl⟩
  rw [← hp1] at h1
  rw [← hp2] at h2
  rw [← hp3] at h3
  have e1 : (16 : Int) * (I : Nat) = (q : Nat) := by omega
  have e2 : (B : Int) + (q : Nat) = (p : Nat) := by omega
  have e3 : (p : Int) + 8 = (p1 : Nat) := by omega
  have e4 : (p : Int) + 12 = (p2 : Nat) := by omega
  have e5 : (p : Int) + 14 = (p3 : Nat) := by omega
  have q1 : q ≤ 1000 := by omega
  have q2 : p ≤ 9000 := by omega
  have i1 : I ≤ 16 := by omega
  have hwrp1 : IntKind.i64.wrap ((p1 : Nat) : Int) = (p1 : Nat) := IntWalk.i64_in _ (by omega)
  have hwrp2 : IntKind.i64.wrap ((p2 : Nat) : Int) = (p2 : Nat) := IntWalk.i64_in _ (by omega)
  have hwrp3 : IntKind.i64.wrap ((p3 : Nat) : Int) = (p3 : Nat) := IntWalk.i64_in _ (by omega)
  have d1 : decide (((I : Nat) : Int) < 0) = false := decide_eq_false (by omega)
  have d2 : decide (N ≤ I) = false := decide_eq_false (by omega)
  have d3 : decide (((N : Nat) : Int) ≤ ((I : Nat) : Int)) = false := decide_eq_false (by omega)
  have hx1 : x1 < 4294967296 := by rw [← h1]; exact numAt_lt l p1 4
  have hx2 : x2 < 65536 := by rw [← h2]; exact numAt_lt l p2 2
  have hx3 : x3 < 65536 := by rw [← h3]; exact numAt_lt l p3 2
  have hyw1 : IntKind.u32.wrap ((x1 : Nat) : Int) = (x1 : Nat) := IntWalk.u32_in _ (by omega)
  have hyw2 : IntKind.u16.wrap ((x2 : Nat) : Int) = (x2 : Nat) := IntWalk.u16_in _ (by omega)
  have hyw3 : IntKind.u16.wrap ((x3 : Nat) : Int) = (x3 : Nat) := IntWalk.u16_in _ (by omega)
  have HG0 := Lib.hid (show ∀ W, Below w.heap.size w W → Calls Try.prog 42 #[.agg #[.slice va l.length vc], .int .i64 (p : Nat), .int .i64 8] W fun e w' => e = .returned (.int .u64 (x0 : Nat)) ∧ Below W.heap.size W w' from fun W h => refGet_at _ l p 8 x0 hL (by omega) (by decide) (by decide) h0 W (hv.below h))
  have HG1 := Lib.hid (show ∀ W, Below w.heap.size w W → Calls Try.prog 42 #[.agg #[.slice va l.length vc], .int .i64 (p1 : Nat), .int .i64 4] W fun e w' => e = .returned (.int .u64 (x1 : Nat)) ∧ Below W.heap.size W w' from fun W h => refGet_at _ l p1 4 x1 hL (by omega) (by decide) (by decide) h1 W (hv.below h))
  have HG2 := Lib.hid (show ∀ W, Below w.heap.size w W → Calls Try.prog 42 #[.agg #[.slice va l.length vc], .int .i64 (p2 : Nat), .int .i64 2] W fun e w' => e = .returned (.int .u64 (x2 : Nat)) ∧ Below W.heap.size W w' from fun W h => refGet_at _ l p2 2 x2 hL (by omega) (by decide) (by decide) h2 W (hv.below h))
  have HG3 := Lib.hid (show ∀ W, Below w.heap.size w W → Calls Try.prog 42 #[.agg #[.slice va l.length vc], .int .i64 (p3 : Nat), .int .i64 2] W fun e w' => e = .returned (.int .u64 (x3 : Nat)) ∧ Below W.heap.size W w' from fun W h => refGet_at _ l p3 2 x3 hL (by omega) (by decide) (by decide) h3 W (hv.below h))
  clear hI hp hq hp1 hp2 hp3 h0 h1 h2 h3 hx1 hx2 hx3
  clear hN hsz hfit hL hok hv
  go_enter Try.func15, Try.ntmps15
  go_wp2_with fail
  refine (refRingCheck_any _ _ _ HMX.out _ _ true HC.out _).mono ?_
  rintro e w1 ⟨rfl, hb⟩
  replace HM := Lib.hid (row_keep HM.out hb)
  replace HR := Lib.hid (row_keep HR.out hb)
  replace HB := Lib.hid (HB.out.trans (hb.mono HB.out.size))
  clear hb
  obtain ⟨c0, _⟩ := one_cell HM.out
  go_wp2_with fail
  clear c0 d1 d2 d3
  refine wp_region_rec (X := RngRefDescX) (by kernel_rfl) (by kernel_rfl) (fun x => #[x.b0, x.b1, x.b2, x.b3, x.b4, x.b5, x.b6, x.b7, x.b8, x.b9, x.b10, x.b11, x.b12, x.b13, x.b14, x.b15, x.b16, x.b17, x.b18, x.b19, x.b20]) (fun x => { tmps := List.toArray ((Value.agg #[Value.slice va l.length vc]) :: (Value.int IntKind.i64 ↑B) :: (Value.int IntKind.i64 ↑N) :: (Value.int IntKind.i64 ↑I) :: (Value.pointer (some ⟨w.heap.size, 0, none⟩)) :: undef :: undef :: undef :: (Value.pointer (some ⟨w.heap.size + 1, 0, none⟩)) :: x.s9 :: (Value.int IntKind.i64 ↑p) :: (Value.agg #[Value.slice va l.length vc]) :: (Value.int IntKind.i64 ↑B) :: (Value.int IntKind.i64 ↑N) :: (Value.bool true) :: (Value.bool false) :: undef :: (Value.int IntKind.i64 ↑I) :: (Value.bool false) :: (Value.bool false) :: (Value.int IntKind.i64 ↑I) :: (Value.int IntKind.i64 ↑N) :: (Value.bool false) :: (Value.bool false) :: undef :: (Value.int IntKind.i64 ↑B) :: (Value.int IntKind.i64 ↑I) :: (Value.int IntKind.i64 ↑q) :: (Value.int IntKind.i64 ↑p) :: x.s29 :: x.s30 :: x.s31 :: x.s32 :: x.s33 :: x.s34 :: x.s35 :: x.s36 :: x.s37 :: x.s38 :: x.s39 :: x.s40 :: x.s41 :: x.s42 :: x.s43 :: x.s44 :: x.s45 :: x.s46 :: x.s47 :: []), defers := [] }) (fun x W => (x.b0 = true → x.s29 = .agg #[.slice va l.length vc]) ∧ (x.b1 = true → x.s30 = .int .i64 (p : Nat)) ∧ (x.b2 = true → x.s31 = .int .u64 (x0 : Nat)) ∧ (x.b3 = true → x.s32 = .agg #[.slice va l.length vc]) ∧ (x.b4 = true → x.s33 = .int .i64 (p : Nat)) ∧ (x.b5 = true → x.s34 = .int .i64 (p1 : Nat)) ∧ (x.b6 = true → x.s35 = .int .u64 (x1 : Nat)) ∧ (x.b7 = true → x.s36 = .int .u32 (x1 : Nat)) ∧ (x.b8 = true → x.s37 = .agg #[.slice va l.length vc]) ∧ (x.b9 = true → x.s38 = .int .i64 (p : Nat)) ∧ (x.b10 = true → x.s39 = .int .i64 (p2 : Nat)) ∧ (x.b11 = true → x.s40 = .int .u64 (x2 : Nat)) ∧ (x.b12 = true → x.s41 = .int .u16 (x2 : Nat)) ∧ (x.b13 = true → x.s42 = .agg #[.slice va l.length vc]) ∧ (x.b14 = true → x.s43 = .int .i64 (p : Nat)) ∧ (x.b15 = true → x.s44 = .int .i64 (p3 : Nat)) ∧ (x.b16 = true → x.s45 = .int .u64 (x3 : Nat)) ∧ (x.b17 = true → x.s46 = .int .u16 (x3 : Nat)) ∧ (x.b18 = true → x.s47 = .agg #[.int .u64 (x0 : Nat), .int .u32 (x1 : Nat), .int .u16 (x2 : Nat), .int .u16 (x3 : Nat)]) ∧ (x.b20 = true → x.s9 = .int .i64 0) ∧ (W.heap[w.heap.size]? = some (.cells #[.slice va l.length vc] 28 (0, 0))) ∧ (x.b19 = false → W.heap[w.heap.size + 1]? = some (.cells #[.int .u64 0, .int .u32 0, .int .u16 0, .int .u16 0] 44)) ∧ (x.b19 = true → W.heap[w.heap.size + 1]? = some (.cells #[.int .u64 (x0 : Nat), .int .u32 (x1 : Nat), .int .u16 (x2 : Nat), .int .u16 (x3 : Nat)] 44)) ∧ (Below w.heap.size w W)) ⟨false, false, false, false, false, false, false, false, false, false, false, false, false, false, false, false, false, false, false, false, false, undef, undef, undef, undef, undef, undef, undef, undef, undef, undef, undef, undef, undef, undef, undef, undef, undef, undef, undef, Value.int IntKind.i64 0⟩ rfl rfl ⟨(fun h => by cases h), (fun h => by cases h), (fun h => by cases h), (fun h => by cases h), (fun h => by cases h), (fun h => by cases h), (fun h => by cases h), (fun h => by cases h), (fun h => by cases h), (fun h => by cases h), (fun h => by cases h), (fun h => by cases h), (fun h => by cases h), (fun h => by cases h), (fun h => by cases h), (fun h => by cases h), (fun h => by cases h), (fun h => by cases h), (fun h => by cases h), (fun h => by cases h), HM.out, (fun _ => HR.out), (fun h => by cases h), HB.out.drew⟩ (fun _ => rfl) ?hstep ?hdone
  case hstep =>
    rintro ⟨b0, b1, b2, b3, b4, b5, b6, b7, b8, b9, b10, b11, b12, b13, b14, b15, b16, b17, b18, b19, b20, s29, s30, s31, s32, s33, s34, s35, s36, s37, s38, s39, s40, s41, s42, s43, s44, s45, s46, s47, s9⟩ W hI i hi
    dsimp only at hI hi ⊢
    have HI := Lib.hid hI
    clear hI
    rw [Region.ready, List.mem_filter, List.mem_range] at hi
    obtain ⟨hlt, hp⟩ := hi
    have hi7 : i = 0 ∨ i = 1 ∨ i = 2 ∨ i = 3 ∨ i = 4 ∨ i = 5 ∨ i = 6 ∨ i = 7 ∨ i = 8 ∨ i = 9 ∨ i = 10 ∨ i = 11 ∨ i = 12 ∨ i = 13 ∨ i = 14 ∨ i = 15 ∨ i = 16 ∨ i = 17 ∨ i = 18 ∨ i = 19 ∨ i = 20 := by simp at hlt; omega
    clear hlt
    rcases hi7 with rfl | rfl | rfl | rfl | rfl | rfl | rfl | rfl | rfl | rfl | rfl | rfl | rfl | rfl | rfl | rfl | rfl | rfl | rfl | rfl | rfl
    all_goals simp [Region.binds] at hp
    · have hn0 : b0 = false := by revert hp; cases b0 <;> simp
      clear hp
      subst hn0
      refine inv_op (o := ⟨some 29, _, _, _, _, _⟩) rfl (fun K' hK' => ?_)
      have gM := HI.out.2.2.2.2.2.2.2.2.2.2.2.2.2.2.2.2.2.2.2.2.1
      obtain ⟨hc1, hc2⟩ := one_cell gM
      go_simp
      obtain ⟨h0, h1, h2, h3, h4, h5, h6, h7, h8, h9, h10, h11, h12, h13, h14, h15, h16, h17, h18, h20, gM, gR, gB, gO⟩ := HI.out
      exact hK'.out _ _ ⟨⟨true, b1, b2, b3, b4, b5, b6, b7, b8, b9, b10, b11, b12, b13, b14, b15, b16, b17, b18, b19, b20, _, s30, s31, s32, s33, s34, s35, s36, s37, s38, s39, s40, s41, s42, s43, s44, s45, s46, s47, s9⟩, rfl, rfl, (fun _ => rfl), h1, h2, h3, h4, h5, h6, h7, h8, h9, h10, h11, h12, h13, h14, h15, h16, h17, h18, h20, gM, gR, gB, gO⟩
    · have hn1 : b1 = false := by revert hp; cases b1 <;> simp
      clear hp
      subst hn1
      refine inv_op (o := ⟨some 30, _, _, _, _, _⟩) rfl (fun K' hK' => ?_)
      go_simp
      obtain ⟨h0, h1, h2, h3, h4, h5, h6, h7, h8, h9, h10, h11, h12, h13, h14, h15, h16, h17, h18, h20, gM, gR, gB, gO⟩ := HI.out
      exact hK'.out _ _ ⟨⟨b0, true, b2, b3, b4, b5, b6, b7, b8, b9, b10, b11, b12, b13, b14, b15, b16, b17, b18, b19, b20, s29, _, s31, s32, s33, s34, s35, s36, s37, s38, s39, s40, s41, s42, s43, s44, s45, s46, s47, s9⟩, rfl, rfl, h0, (fun _ => rfl), h2, h3, h4, h5, h6, h7, h8, h9, h10, h11, h12, h13, h14, h15, h16, h17, h18, h20, gM, gR, gB, gO⟩
    · have hn2 : b2 = false := by revert hp; cases b2 <;> simp
      have e0 : b0 = true := by revert hp; cases b0 <;> simp
      have e1 : b1 = true := by revert hp; cases b1 <;> simp
      clear hp
      obtain rfl := (HI.out.1) e0
      obtain rfl := (HI.out.2.1) e1
      subst hn2
      refine inv_op (o := ⟨some 31, _, _, _, _, _⟩) rfl (fun K' hK' => ?_)
      have gO := HI.out.2.2.2.2.2.2.2.2.2.2.2.2.2.2.2.2.2.2.2.2.2.2.2
      go_simp
      refine (HG0.out W gO).mono ?_
      rintro e w2 ⟨rfl, bn⟩
      obtain ⟨h0, h1, h2, h3, h4, h5, h6, h7, h8, h9, h10, h11, h12, h13, h14, h15, h16, h17, h18, h20, gM, gR, gB, gO⟩ := HI.out
      exact hK'.out _ _ ⟨⟨b0, b1, true, b3, b4, b5, b6, b7, b8, b9, b10, b11, b12, b13, b14, b15, b16, b17, b18, b19, b20, _, _, _, s32, s33, s34, s35, s36, s37, s38, s39, s40, s41, s42, s43, s44, s45, s46, s47, s9⟩, rfl, rfl, h0, h1, (fun _ => rfl), h3, h4, h5, h6, h7, h8, h9, h10, h11, h12, h13, h14, h15, h16, h17, h18, h20, (row_keep gM bn), (fun e => row_keep (gR e) bn), (fun e => row_keep (gB e) bn), (gO.trans (bn.mono gO.size))⟩
    · have hn3 : b3 = false := by revert hp; cases b3 <;> simp
      clear hp
      subst hn3
      refine inv_op (o := ⟨some 32, _, _, _, _, _⟩) rfl (fun K' hK' => ?_)
      have gM := HI.out.2.2.2.2.2.2.2.2.2.2.2.2.2.2.2.2.2.2.2.2.1
      obtain ⟨hc1, hc2⟩ := one_cell gM
      go_simp
      obtain ⟨h0, h1, h2, h3, h4, h5, h6, h7, h8, h9, h10, h11, h12, h13, h14, h15, h16, h17, h18, h20, gM, gR, gB, gO⟩ := HI.out
      exact hK'.out _ _ ⟨⟨b0, b1, b2, true, b4, b5, b6, b7, b8, b9, b10, b11, b12, b13, b14, b15, b16, b17, b18, b19, b20, s29, s30, s31, _, s33, s34, s35, s36, s37, s38, s39, s40, s41, s42, s43, s44, s45, s46, s47, s9⟩, rfl, rfl, h0, h1, h2, (fun _ => rfl), h4, h5, h6, h7, h8, h9, h10, h11, h12, h13, h14, h15, h16, h17, h18, h20, gM, gR, gB, gO⟩
    · have hn4 : b4 = false := by revert hp; cases b4 <;> simp
      clear hp
      subst hn4
      refine inv_op (o := ⟨some 33, _, _, _, _, _⟩) rfl (fun K' hK' => ?_)
      go_simp
      obtain ⟨h0, h1, h2, h3, h4, h5, h6, h7, h8, h9, h10, h11, h12, h13, h14, h15, h16, h17, h18, h20, gM, gR, gB, gO⟩ := HI.out
      exact hK'.out _ _ ⟨⟨b0, b1, b2, b3, true, b5, b6, b7, b8, b9, b10, b11, b12, b13, b14, b15, b16, b17, b18, b19, b20, s29, s30, s31, s32, _, s34, s35, s36, s37, s38, s39, s40, s41, s42, s43, s44, s45, s46, s47, s9⟩, rfl, rfl, h0, h1, h2, h3, (fun _ => rfl), h5, h6, h7, h8, h9, h10, h11, h12, h13, h14, h15, h16, h17, h18, h20, gM, gR, gB, gO⟩
    · have hn5 : b5 = false := by revert hp; cases b5 <;> simp
      have e4 : b4 = true := by revert hp; cases b4 <;> simp
      clear hp
      obtain rfl := (HI.out.2.2.2.2.1) e4
      subst hn5
      refine inv_op (o := ⟨some 34, _, _, _, _, _⟩) rfl (fun K' hK' => ?_)
      go_simp
      obtain ⟨h0, h1, h2, h3, h4, h5, h6, h7, h8, h9, h10, h11, h12, h13, h14, h15, h16, h17, h18, h20, gM, gR, gB, gO⟩ := HI.out
      exact hK'.out _ _ ⟨⟨b0, b1, b2, b3, b4, true, b6, b7, b8, b9, b10, b11, b12, b13, b14, b15, b16, b17, b18, b19, b20, s29, s30, s31, s32, _, _, s35, s36, s37, s38, s39, s40, s41, s42, s43, s44, s45, s46, s47, s9⟩, rfl, rfl, h0, h1, h2, h3, h4, (fun _ => rfl), h6, h7, h8, h9, h10, h11, h12, h13, h14, h15, h16, h17, h18, h20, gM, gR, gB, gO⟩
    · have hn6 : b6 = false := by revert hp; cases b6 <;> simp
      have e3 : b3 = true := by revert hp; cases b3 <;> simp
      have e5 : b5 = true := by revert hp; cases b5 <;> simp
      clear hp
      obtain rfl := (HI.out.2.2.2.1) e3
      obtain rfl := (HI.out.2.2.2.2.2.1) e5
      subst hn6
      refine inv_op (o := ⟨some 35, _, _, _, _, _⟩) rfl (fun K' hK' => ?_)
      have gO := HI.out.2.2.2.2.2.2.2.2.2.2.2.2.2.2.2.2.2.2.2.2.2.2.2
      go_simp
      refine (HG1.out W gO).mono ?_
      rintro e w2 ⟨rfl, bn⟩
      obtain ⟨h0, h1, h2, h3, h4, h5, h6, h7, h8, h9, h10, h11, h12, h13, h14, h15, h16, h17, h18, h20, gM, gR, gB, gO⟩ := HI.out
      exact hK'.out _ _ ⟨⟨b0, b1, b2, b3, b4, b5, true, b7, b8, b9, b10, b11, b12, b13, b14, b15, b16, b17, b18, b19, b20, s29, s30, s31, _, s33, _, _, s36, s37, s38, s39, s40, s41, s42, s43, s44, s45, s46, s47, s9⟩, rfl, rfl, h0, h1, h2, h3, h4, h5, (fun _ => rfl), h7, h8, h9, h10, h11, h12, h13, h14, h15, h16, h17, h18, h20, (row_keep gM bn), (fun e => row_keep (gR e) bn), (fun e => row_keep (gB e) bn), (gO.trans (bn.mono gO.size))⟩
    · have hn7 : b7 = false := by revert hp; cases b7 <;> simp
      have e6 : b6 = true := by revert hp; cases b6 <;> simp
      clear hp
      obtain rfl := (HI.out.2.2.2.2.2.2.1) e6
      subst hn7
      refine inv_op (o := ⟨some 36, _, _, _, _, _⟩) rfl (fun K' hK' => ?_)
      go_simp
      obtain ⟨h0, h1, h2, h3, h4, h5, h6, h7, h8, h9, h10, h11, h12, h13, h14, h15, h16, h17, h18, h20, gM, gR, gB, gO⟩ := HI.out
      exact hK'.out _ _ ⟨⟨b0, b1, b2, b3, b4, b5, b6, true, b8, b9, b10, b11, b12, b13, b14, b15, b16, b17, b18, b19, b20, s29, s30, s31, s32, s33, s34, _, _, s37, s38, s39, s40, s41, s42, s43, s44, s45, s46, s47, s9⟩, rfl, rfl, h0, h1, h2, h3, h4, h5, h6, (fun _ => rfl), h8, h9, h10, h11, h12, h13, h14, h15, h16, h17, h18, h20, gM, gR, gB, gO⟩
    · have hn8 : b8 = false := by revert hp; cases b8 <;> simp
      clear hp
      subst hn8
      refine inv_op (o := ⟨some 37, _, _, _, _, _⟩) rfl (fun K' hK' => ?_)
      have gM := HI.out.2.2.2.2.2.2.2.2.2.2.2.2.2.2.2.2.2.2.2.2.1
      obtain ⟨hc1, hc2⟩ := one_cell gM
      go_simp
      obtain ⟨h0, h1, h2, h3, h4, h5, h6, h7, h8, h9, h10, h11, h12, h13, h14, h15, h16, h17, h18, h20, gM, gR, gB, gO⟩ := HI.out
      exact hK'.out _ _ ⟨⟨b0, b1, b2, b3, b4, b5, b6, b7, true, b9, b10, b11, b12, b13, b14, b15, b16, b17, b18, b19, b20, s29, s30, s31, s32, s33, s34, s35, s36, _, s38, s39, s40, s41, s42, s43, s44, s45, s46, s47, s9⟩, rfl, rfl, h0, h1, h2, h3, h4, h5, h6, h7, (fun _ => rfl), h9, h10, h11, h12, h13, h14, h15, h16, h17, h18, h20, gM, gR, gB, gO⟩
    · have hn9 : b9 = false := by revert hp; cases b9 <;> simp
      clear hp
      subst hn9
      refine inv_op (o := ⟨some 38, _, _, _, _, _⟩) rfl (fun K' hK' => ?_)
      go_simp
      obtain ⟨h0, h1, h2, h3, h4, h5, h6, h7, h8, h9, h10, h11, h12, h13, h14, h15, h16, h17, h18, h20, gM, gR, gB, gO⟩ := HI.out
      exact hK'.out _ _ ⟨⟨b0, b1, b2, b3, b4, b5, b6, b7, b8, true, b10, b11, b12, b13, b14, b15, b16, b17, b18, b19, b20, s29, s30, s31, s32, s33, s34, s35, s36, s37, _, s39, s40, s41, s42, s43, s44, s45, s46, s47, s9⟩, rfl, rfl, h0, h1, h2, h3, h4, h5, h6, h7, h8, (fun _ => rfl), h10, h11, h12, h13, h14, h15, h16, h17, h18, h20, gM, gR, gB, gO⟩
    · have hn10 : b10 = false := by revert hp; cases b10 <;> simp
      have e9 : b9 = true := by revert hp; cases b9 <;> simp
      clear hp
      obtain rfl := (HI.out.2.2.2.2.2.2.2.2.2.1) e9
      subst hn10
      refine inv_op (o := ⟨some 39, _, _, _, _, _⟩) rfl (fun K' hK' => ?_)
      go_simp
      obtain ⟨h0, h1, h2, h3, h4, h5, h6, h7, h8, h9, h10, h11, h12, h13, h14, h15, h16, h17, h18, h20, gM, gR, gB, gO⟩ := HI.out
      exact hK'.out _ _ ⟨⟨b0, b1, b2, b3, b4, b5, b6, b7, b8, b9, true, b11, b12, b13, b14, b15, b16, b17, b18, b19, b20, s29, s30, s31, s32, s33, s34, s35, s36, s37, _, _, s40, s41, s42, s43, s44, s45, s46, s47, s9⟩, rfl, rfl, h0, h1, h2, h3, h4, h5, h6, h7, h8, h9, (fun _ => rfl), h11, h12, h13, h14, h15, h16, h17, h18, h20, gM, gR, gB, gO⟩
    · have hn11 : b11 = false := by revert hp; cases b11 <;> simp
      have e8 : b8 = true := by revert hp; cases b8 <;> simp
      have e10 : b10 = true := by revert hp; cases b10 <;> simp
      clear hp
      obtain rfl := (HI.out.2.2.2.2.2.2.2.2.1) e8
      obtain rfl := (HI.out.2.2.2.2.2.2.2.2.2.2.1) e10
      subst hn11
      refine inv_op (o := ⟨some 40, _, _, _, _, _⟩) rfl (fun K' hK' => ?_)
      have gO := HI.out.2.2.2.2.2.2.2.2.2.2.2.2.2.2.2.2.2.2.2.2.2.2.2
      go_simp
      refine (HG2.out W gO).mono ?_
      rintro e w2 ⟨rfl, bn⟩
      obtain ⟨h0, h1, h2, h3, h4, h5, h6, h7, h8, h9, h10, h11, h12, h13, h14, h15, h16, h17, h18, h20, gM, gR, gB, gO⟩ := HI.out
      exact hK'.out _ _ ⟨⟨b0, b1, b2, b3, b4, b5, b6, b7, b8, b9, b10, true, b12, b13, b14, b15, b16, b17, b18, b19, b20, s29, s30, s31, s32, s33, s34, s35, s36, _, s38, _, _, s41, s42, s43, s44, s45, s46, s47, s9⟩, rfl, rfl, h0, h1, h2, h3, h4, h5, h6, h7, h8, h9, h10, (fun _ => rfl), h12, h13, h14, h15, h16, h17, h18, h20, (row_keep gM bn), (fun e => row_keep (gR e) bn), (fun e => row_keep (gB e) bn), (gO.trans (bn.mono gO.size))⟩
    · have hn12 : b12 = false := by revert hp; cases b12 <;> simp
      have e11 : b11 = true := by revert hp; cases b11 <;> simp
      clear hp
      obtain rfl := (HI.out.2.2.2.2.2.2.2.2.2.2.2.1) e11
      subst hn12
      refine inv_op (o := ⟨some 41, _, _, _, _, _⟩) rfl (fun K' hK' => ?_)
      go_simp
      obtain ⟨h0, h1, h2, h3, h4, h5, h6, h7, h8, h9, h10, h11, h12, h13, h14, h15, h16, h17, h18, h20, gM, gR, gB, gO⟩ := HI.out
      exact hK'.out _ _ ⟨⟨b0, b1, b2, b3, b4, b5, b6, b7, b8, b9, b10, b11, true, b13, b14, b15, b16, b17, b18, b19, b20, s29, s30, s31, s32, s33, s34, s35, s36, s37, s38, s39, _, _, s42, s43, s44, s45, s46, s47, s9⟩, rfl, rfl, h0, h1, h2, h3, h4, h5, h6, h7, h8, h9, h10, h11, (fun _ => rfl), h13, h14, h15, h16, h17, h18, h20, gM, gR, gB, gO⟩
    · have hn13 : b13 = false := by revert hp; cases b13 <;> simp
      clear hp
      subst hn13
      refine inv_op (o := ⟨some 42, _, _, _, _, _⟩) rfl (fun K' hK' => ?_)
      have gM := HI.out.2.2.2.2.2.2.2.2.2.2.2.2.2.2.2.2.2.2.2.2.1
      obtain ⟨hc1, hc2⟩ := one_cell gM
      go_simp
      obtain ⟨h0, h1, h2, h3, h4, h5, h6, h7, h8, h9, h10, h11, h12, h13, h14, h15, h16, h17, h18, h20, gM, gR, gB, gO⟩ := HI.out
      exact hK'.out _ _ ⟨⟨b0, b1, b2, b3, b4, b5, b6, b7, b8, b9, b10, b11, b12, true, b14, b15, b16, b17, b18, b19, b20, s29, s30, s31, s32, s33, s34, s35, s36, s37, s38, s39, s40, s41, _, s43, s44, s45, s46, s47, s9⟩, rfl, rfl, h0, h1, h2, h3, h4, h5, h6, h7, h8, h9, h10, h11, h12, (fun _ => rfl), h14, h15, h16, h17, h18, h20, gM, gR, gB, gO⟩
    · have hn14 : b14 = false := by revert hp; cases b14 <;> simp
      clear hp
      subst hn14
      refine inv_op (o := ⟨some 43, _, _, _, _, _⟩) rfl (fun K' hK' => ?_)
      go_simp
      obtain ⟨h0, h1, h2, h3, h4, h5, h6, h7, h8, h9, h10, h11, h12, h13, h14, h15, h16, h17, h18, h20, gM, gR, gB, gO⟩ := HI.out
      exact hK'.out _ _ ⟨⟨b0, b1, b2, b3, b4, b5, b6, b7, b8, b9, b10, b11, b12, b13, true, b15, b16, b17, b18, b19, b20, s29, s30, s31, s32, s33, s34, s35, s36, s37, s38, s39, s40, s41, s42, _, s44, s45, s46, s47, s9⟩, rfl, rfl, h0, h1, h2, h3, h4, h5, h6, h7, h8, h9, h10, h11, h12, h13, (fun _ => rfl), h15, h16, h17, h18, h20, gM, gR, gB, gO⟩
    · have hn15 : b15 = false := by revert hp; cases b15 <;> simp
      have e14 : b14 = true := by revert hp; cases b14 <;> simp
      clear hp
      obtain rfl := (HI.out.2.2.2.2.2.2.2.2.2.2.2.2.2.2.1) e14
      subst hn15
      refine inv_op (o := ⟨some 44, _, _, _, _, _⟩) rfl (fun K' hK' => ?_)
      go_simp
      obtain ⟨h0, h1, h2, h3, h4, h5, h6, h7, h8, h9, h10, h11, h12, h13, h14, h15, h16, h17, h18, h20, gM, gR, gB, gO⟩ := HI.out
      exact hK'.out _ _ ⟨⟨b0, b1, b2, b3, b4, b5, b6, b7, b8, b9, b10, b11, b12, b13, b14, true, b16, b17, b18, b19, b20, s29, s30, s31, s32, s33, s34, s35, s36, s37, s38, s39, s40, s41, s42, _, _, s45, s46, s47, s9⟩, rfl, rfl, h0, h1, h2, h3, h4, h5, h6, h7, h8, h9, h10, h11, h12, h13, h14, (fun _ => rfl), h16, h17, h18, h20, gM, gR, gB, gO⟩
    · have hn16 : b16 = false := by revert hp; cases b16 <;> simp
      have e13 : b13 = true := by revert hp; cases b13 <;> simp
      have e15 : b15 = true := by revert hp; cases b15 <;> simp
      clear hp
      obtain rfl := (HI.out.2.2.2.2.2.2.2.2.2.2.2.2.2.1) e13
      obtain rfl := (HI.out.2.2.2.2.2.2.2.2.2.2.2.2.2.2.2.1) e15
      subst hn16
      refine inv_op (o := ⟨some 45, _, _, _, _, _⟩) rfl (fun K' hK' => ?_)
      have gO := HI.out.2.2.2.2.2.2.2.2.2.2.2.2.2.2.2.2.2.2.2.2.2.2.2
      go_simp
      refine (HG3.out W gO).mono ?_
      rintro e w2 ⟨rfl, bn⟩
      obtain ⟨h0, h1, h2, h3, h4, h5, h6, h7, h8, h9, h10, h11, h12, h13, h14, h15, h16, h17, h18, h20, gM, gR, gB, gO⟩ := HI.out
      exact hK'.out _ _ ⟨⟨b0, b1, b2, b3, b4, b5, b6, b7, b8, b9, b10, b11, b12, b13, b14, b15, true, b17, b18, b19, b20, s29, s30, s31, s32, s33, s34, s35, s36, s37, s38, s39, s40, s41, _, s43, _, _, s46, s47, s9⟩, rfl, rfl, h0, h1, h2, h3, h4, h5, h6, h7, h8, h9, h10, h11, h12, h13, h14, h15, (fun _ => rfl), h17, h18, h20, (row_keep gM bn), (fun e => row_keep (gR e) bn), (fun e => row_keep (gB e) bn), (gO.trans (bn.mono gO.size))⟩
    · have hn17 : b17 = false := by revert hp; cases b17 <;> simp
      have e16 : b16 = true := by revert hp; cases b16 <;> simp
      clear hp
      obtain rfl := (HI.out.2.2.2.2.2.2.2.2.2.2.2.2.2.2.2.2.1) e16
      subst hn17
      refine inv_op (o := ⟨some 46, _, _, _, _, _⟩) rfl (fun K' hK' => ?_)
      go_simp
      obtain ⟨h0, h1, h2, h3, h4, h5, h6, h7, h8, h9, h10, h11, h12, h13, h14, h15, h16, h17, h18, h20, gM, gR, gB, gO⟩ := HI.out
      exact hK'.out _ _ ⟨⟨b0, b1, b2, b3, b4, b5, b6, b7, b8, b9, b10, b11, b12, b13, b14, b15, b16, true, b18, b19, b20, s29, s30, s31, s32, s33, s34, s35, s36, s37, s38, s39, s40, s41, s42, s43, s44, _, _, s47, s9⟩, rfl, rfl, h0, h1, h2, h3, h4, h5, h6, h7, h8, h9, h10, h11, h12, h13, h14, h15, h16, (fun _ => rfl), h18, h20, gM, gR, gB, gO⟩
    · have hn18 : b18 = false := by revert hp; cases b18 <;> simp
      have e2 : b2 = true := by revert hp; cases b2 <;> simp
      have e7 : b7 = true := by revert hp; cases b7 <;> simp
      have e12 : b12 = true := by revert hp; cases b12 <;> simp
      have e17 : b17 = true := by revert hp; cases b17 <;> simp
      clear hp
      obtain rfl := (HI.out.2.2.1) e2
      obtain rfl := (HI.out.2.2.2.2.2.2.2.1) e7
      obtain rfl := (HI.out.2.2.2.2.2.2.2.2.2.2.2.2.1) e12
      obtain rfl := (HI.out.2.2.2.2.2.2.2.2.2.2.2.2.2.2.2.2.2.1) e17
      subst hn18
      refine inv_op (o := ⟨some 47, _, _, _, _, _⟩) rfl (fun K' hK' => ?_)
      go_simp
      obtain ⟨h0, h1, h2, h3, h4, h5, h6, h7, h8, h9, h10, h11, h12, h13, h14, h15, h16, h17, h18, h20, gM, gR, gB, gO⟩ := HI.out
      exact hK'.out _ _ ⟨⟨b0, b1, b2, b3, b4, b5, b6, b7, b8, b9, b10, b11, b12, b13, b14, b15, b16, b17, true, b19, b20, s29, s30, _, s32, s33, s34, s35, _, s37, s38, s39, s40, _, s42, s43, s44, s45, _, _, s9⟩, rfl, rfl, h0, h1, h2, h3, h4, h5, h6, h7, h8, h9, h10, h11, h12, h13, h14, h15, h16, h17, (fun _ => rfl), h20, gM, gR, gB, gO⟩
    · have hn19 : b19 = false := by revert hp; cases b19 <;> simp
      have e18 : b18 = true := by revert hp; cases b18 <;> simp
      clear hp
      obtain rfl := (HI.out.2.2.2.2.2.2.2.2.2.2.2.2.2.2.2.2.2.2.1) e18
      subst hn19
      refine inv_op (o := ⟨none, _, _, _, _, _⟩) rfl (fun K' hK' => ?_)
      have gR := HI.out.2.2.2.2.2.2.2.2.2.2.2.2.2.2.2.2.2.2.2.2.2.1
      have hrow := gR rfl
      obtain ⟨u0, t0⟩ := at_cell hrow 0 _ rfl
      obtain ⟨u1, t1⟩ := at_cell hrow 1 _ rfl
      obtain ⟨u2, t2⟩ := at_cell hrow 2 _ rfl
      obtain ⟨u3, t3⟩ := at_cell hrow 3 _ rfl
      go_simp
      obtain ⟨h0, h1, h2, h3, h4, h5, h6, h7, h8, h9, h10, h11, h12, h13, h14, h15, h16, h17, h18, h20, gM, gR, gB, gO⟩ := HI.out
      exact hK'.out _ _ ⟨⟨b0, b1, b2, b3, b4, b5, b6, b7, b8, b9, b10, b11, b12, b13, b14, b15, b16, b17, b18, true, b20, s29, s30, s31, s32, s33, s34, s35, s36, s37, s38, s39, s40, s41, s42, s43, s44, s45, s46, _, s9⟩, rfl, rfl, h0, h1, h2, h3, h4, h5, h6, h7, h8, h9, h10, h11, h12, h13, h14, h15, h16, h17, h18, h20, (put4_far gM (by simp) _ _ _ _), (fun e => by cases e), (fun _ => put4_row hrow _ _ _ _), ((((gO.setCell (by simp) _).setCell (by simp) _).setCell (by simp) _).setCell (by simp) _)⟩
    · have hn20 : b20 = false := by revert hp; cases b20 <;> simp
      clear hp
      subst hn20
      refine inv_op (o := ⟨some 9, _, _, _, _, _⟩) rfl (fun K' hK' => ?_)
      go_simp
      obtain ⟨h0, h1, h2, h3, h4, h5, h6, h7, h8, h9, h10, h11, h12, h13, h14, h15, h16, h17, h18, h20, gM, gR, gB, gO⟩ := HI.out
      exact hK'.out _ _ ⟨⟨b0, b1, b2, b3, b4, b5, b6, b7, b8, b9, b10, b11, b12, b13, b14, b15, b16, b17, b18, b19, true, s29, s30, s31, s32, s33, s34, s35, s36, s37, s38, s39, s40, s41, s42, s43, s44, s45, s46, s47, _⟩, rfl, rfl, h0, h1, h2, h3, h4, h5, h6, h7, h8, h9, h10, h11, h12, h13, h14, h15, h16, h17, h18, (fun _ => rfl), gM, gR, gB, gO⟩
  case hdone =>
    rintro ⟨b0, b1, b2, b3, b4, b5, b6, b7, b8, b9, b10, b11, b12, b13, b14, b15, b16, b17, b18, b19, b20, s29, s30, s31, s32, s33, s34, s35, s36, s37, s38, s39, s40, s41, s42, s43, s44, s45, s46, s47, s9⟩ W hI hall
    dsimp only at hI hall ⊢
    have HI := Lib.hid hI
    clear hI
    obtain rfl : b0 = true := hall 0 (by decide)
    obtain rfl : b1 = true := hall 1 (by decide)
    obtain rfl : b2 = true := hall 2 (by decide)
    obtain rfl : b3 = true := hall 3 (by decide)
    obtain rfl : b4 = true := hall 4 (by decide)
    obtain rfl : b5 = true := hall 5 (by decide)
    obtain rfl : b6 = true := hall 6 (by decide)
    obtain rfl : b7 = true := hall 7 (by decide)
    obtain rfl : b8 = true := hall 8 (by decide)
    obtain rfl : b9 = true := hall 9 (by decide)
    obtain rfl : b10 = true := hall 10 (by decide)
    obtain rfl : b11 = true := hall 11 (by decide)
    obtain rfl : b12 = true := hall 12 (by decide)
    obtain rfl : b13 = true := hall 13 (by decide)
    obtain rfl : b14 = true := hall 14 (by decide)
    obtain rfl : b15 = true := hall 15 (by decide)
    obtain rfl : b16 = true := hall 16 (by decide)
    obtain rfl : b17 = true := hall 17 (by decide)
    obtain rfl : b18 = true := hall 18 (by decide)
    obtain rfl : b19 = true := hall 19 (by decide)
    obtain rfl : b20 = true := hall 20 (by decide)
    obtain rfl := (HI.out.2.2.2.2.2.2.2.2.2.2.2.2.2.2.2.2.2.2.2.1) rfl
    have gB := HI.out.2.2.2.2.2.2.2.2.2.2.2.2.2.2.2.2.2.2.2.2.2.2.1
    have gO := HI.out.2.2.2.2.2.2.2.2.2.2.2.2.2.2.2.2.2.2.2.2.2.2.2
    clear HI hall
    obtain ⟨r0, g0⟩ := at_cell (gB rfl) 0 _ rfl
    obtain ⟨r1, g1⟩ := at_cell (gB rfl) 1 _ rfl
    obtain ⟨r2, g2⟩ := at_cell (gB rfl) 2 _ rfl
    obtain ⟨r3, g3⟩ := at_cell (gB rfl) 3 _ rfl
    have HO := Lib.hid gO
    clear gB gO
    go_wp2
    refine bodyPost_ret (v := .tuple #[.agg #[.int .u64 (x0 : Nat), .int .u32 (x1 : Nat), .int .u16 (x2 : Nat), .int .u16 (x3 : Nat)], .int .i64 0]) (by simp [results, Try.results15, go_sem, r0, r1, r2, r3]) rfl ⟨rfl, HO.out⟩
structure RngRefAvailX where
  b0 : Bool
  b1 : Bool
  b2 : Bool
  b3 : Bool
  b4 : Bool
  b5 : Bool
  b6 : Bool
  b7 : Bool
  b8 : Bool
  b9 : Bool
  s13 : Value
  s14 : Value
  s15 : Value
  s16 : Value
  s17 : Value
  s18 : Value
  s19 : Value
  s20 : Value
  s6 : Value
  s7 : Value

set_option maxHeartbeats 4000000 in
set_option maxRecDepth 100000 in
theorem refAvail_in (v : Value) (l : List UInt8) (w : World) (hv : IsArg w v l) (B N : Nat) (hok : RingOk l.length B N)  (p y : Nat) (hp : B + 16 * N + 2 = p) (hy : numAt l p 2 = y) :
    Calls Try.prog 21 #[.agg #[v], .int .i64 (B : Nat), .int .i64 (N : Nat)] w fun e w' => e = .returned (.tuple #[.int .u16 (y : Nat), .int .i64 0]) ∧ Below w.heap.size w w' := by
  have hN := hok.right.le
  have hsz := sizeN_le N
  have hfit := hok.fits
  have hL := hok.few
  have HL := Lib.hid hL
  have HNN := Lib.hid hN
  have HMX := Lib.hid (show l.length ≤ maxLen by unfold maxLen; omega)
  have HC := Lib.hid hok.ok
  have HV := Lib.hid hv
  obtain ⟨va, vc, rfl, _⟩ := hv.shape
  have HB := Lib.hid ((Below.refl w.heap.size w).alloc (Nat.le_refl _) (.cells #[.slice va l.length vc] 28))
  have HM := Lib.hid (heap_alloc_new w (.cells #[.slice va l.length vc] 28))
  obtain ⟨f1, hf1⟩ : ∃ q, q = 16 * N := ⟨_, rfl⟩
  obtain ⟨c1, hc1⟩ : ∃ q, q = B + f1 := ⟨_, rfl⟩
  have e2 : (B : Int) + (f1 : Nat) = (c1 : Nat) := by omega
  have e3 : (c1 : Int) + 2 = (p : Nat) := by omega
  have q1 : f1 ≤ 1000 := by omega
  have q2 : c1 ≤ 9000 := by omega
  have hwrc1 : IntKind.i64.wrap ((c1 : Nat) : Int) = (c1 : Nat) := IntWalk.i64_in _ (by omega)
  have hwrp : IntKind.i64.wrap ((p : Nat) : Int) = (p : Nat) := IntWalk.i64_in _ (by omega)
  have HF := Lib.hid (show ∀ W, Calls Try.prog 45 #[.int .i64 (N : Nat)] W fun e w' => e = .returned (.int .i64 (f1 : Nat)) ∧ w' = W from fun W => refFirst_any N f1 hf1.symm hN.2 W)
  have hy2 : y < 65536 := by rw [← hy]; exact numAt_lt l p 2
  have hyw : IntKind.u16.wrap ((y : Nat) : Int) = (y : Nat) := IntWalk.u16_in _ (by omega)
  have HG0 := Lib.hid (show ∀ W, Below w.heap.size w W → Calls Try.prog 42 #[.agg #[.slice va l.length vc], .int .i64 (p : Nat), .int .i64 2] W fun e w' => e = .returned (.int .u64 (y : Nat)) ∧ Below W.heap.size W w' from fun W h => refGet_at _ l p 2 y hL (by omega) (by decide) (by decide) hy W (hv.below h))
  clear hp hf1 hc1 hy hy2
  clear hN hsz hfit hL hok hv
  go_enter Try.func21, Try.ntmps21
  go_wp2_with fail
  refine (refRingCheck_any _ _ _ HMX.out _ _ true HC.out _).mono ?_
  rintro e w1 ⟨rfl, hb⟩
  replace HM := Lib.hid (row_keep HM.out hb)
  replace HB := Lib.hid (HB.out.trans (hb.mono HB.out.size))
  clear hb
  go_wp2_with fail
  refine wp_region_rec (X := RngRefAvailX) (by kernel_rfl) (by kernel_rfl) (fun x => #[x.b0, x.b1, x.b2, x.b3, x.b4, x.b5, x.b6, x.b7, x.b8, x.b9]) (fun x => { tmps := #[Value.agg #[Value.slice va l.length vc], Value.int IntKind.i64 ↑B, Value.int IntKind.i64 ↑N, Value.pointer (some ⟨w.heap.size, 0, none⟩), undef, undef, x.s6, x.s7, Value.agg #[Value.slice va l.length vc], Value.int IntKind.i64 ↑B, Value.int IntKind.i64 ↑N, Value.bool true, Value.bool false, x.s13, x.s14, x.s15, x.s16, x.s17, x.s18, x.s19, x.s20], defers := [] }) (fun x W => (x.b0 = true → x.s13 = .agg #[.slice va l.length vc]) ∧ (x.b1 = true → x.s14 = .int .i64 (B : Nat)) ∧ (x.b2 = true → x.s15 = .int .i64 (N : Nat)) ∧ (x.b3 = true → x.s16 = .int .i64 (f1 : Nat)) ∧ (x.b4 = true → x.s17 = .int .i64 (c1 : Nat)) ∧ (x.b5 = true → x.s18 = .int .i64 (p : Nat)) ∧ (x.b6 = true → x.s19 = .int .u64 (y : Nat)) ∧ (x.b7 = true → x.s20 = .int .u16 (y : Nat)) ∧ (x.b8 = true → x.s6 = .int .u16 (y : Nat)) ∧ (x.b9 = true → x.s7 = .int .i64 0) ∧ (W.heap[w.heap.size]? = some (.cells #[.slice va l.length vc] 28 (0, 0))) ∧ (Below w.heap.size w W)) ⟨false, false, false, false, false, false, false, false, false, false, undef, undef, undef, undef, undef, undef, undef, undef, Value.int IntKind.u16 0, Value.int IntKind.i64 0⟩ rfl rfl ⟨(fun h => by cases h), (fun h => by cases h), (fun h => by cases h), (fun h => by cases h), (fun h => by cases h), (fun h => by cases h), (fun h => by cases h), (fun h => by cases h), (fun h => by cases h), (fun h => by cases h), HM.out, HB.out.drew⟩ (fun _ => rfl) ?hstep ?hdone
  case hstep =>
    rintro ⟨b0, b1, b2, b3, b4, b5, b6, b7, b8, b9, s13, s14, s15, s16, s17, s18, s19, s20, s6, s7⟩ W hI i hi
    dsimp only at hI hi ⊢
    have HI := Lib.hid hI
    clear hI
    rw [Region.ready, List.mem_filter, List.mem_range] at hi
    obtain ⟨hlt, hp⟩ := hi
    have hi7 : i = 0 ∨ i = 1 ∨ i = 2 ∨ i = 3 ∨ i = 4 ∨ i = 5 ∨ i = 6 ∨ i = 7 ∨ i = 8 ∨ i = 9 := by simp at hlt; omega
    clear hlt
    rcases hi7 with rfl | rfl | rfl | rfl | rfl | rfl | rfl | rfl | rfl | rfl
    all_goals simp [Region.binds] at hp
    · have hn0 : b0 = false := by revert hp; cases b0 <;> simp
      clear hp
      subst hn0
      refine inv_op (o := ⟨some 13, _, _, _, _, _⟩) rfl (fun K' hK' => ?_)
      have gM := HI.out.2.2.2.2.2.2.2.2.2.2.1
      obtain ⟨hc1, hc2⟩ := one_cell gM
      go_simp
      obtain ⟨h0, h1, h2, h3, h4, h5, h6, h7, h8, h9, gM, gO⟩ := HI.out
      exact hK'.out _ _ ⟨⟨true, b1, b2, b3, b4, b5, b6, b7, b8, b9, _, s14, s15, s16, s17, s18, s19, s20, s6, s7⟩, rfl, rfl, (fun _ => rfl), h1, h2, h3, h4, h5, h6, h7, h8, h9, gM, gO⟩
    · have hn1 : b1 = false := by revert hp; cases b1 <;> simp
      clear hp
      subst hn1
      refine inv_op (o := ⟨some 14, _, _, _, _, _⟩) rfl (fun K' hK' => ?_)
      go_simp
      obtain ⟨h0, h1, h2, h3, h4, h5, h6, h7, h8, h9, gM, gO⟩ := HI.out
      exact hK'.out _ _ ⟨⟨b0, true, b2, b3, b4, b5, b6, b7, b8, b9, s13, _, s15, s16, s17, s18, s19, s20, s6, s7⟩, rfl, rfl, h0, (fun _ => rfl), h2, h3, h4, h5, h6, h7, h8, h9, gM, gO⟩
    · have hn2 : b2 = false := by revert hp; cases b2 <;> simp
      clear hp
      subst hn2
      refine inv_op (o := ⟨some 15, _, _, _, _, _⟩) rfl (fun K' hK' => ?_)
      go_simp
      obtain ⟨h0, h1, h2, h3, h4, h5, h6, h7, h8, h9, gM, gO⟩ := HI.out
      exact hK'.out _ _ ⟨⟨b0, b1, true, b3, b4, b5, b6, b7, b8, b9, s13, s14, _, s16, s17, s18, s19, s20, s6, s7⟩, rfl, rfl, h0, h1, (fun _ => rfl), h3, h4, h5, h6, h7, h8, h9, gM, gO⟩
    · have hn3 : b3 = false := by revert hp; cases b3 <;> simp
      have e2 : b2 = true := by revert hp; cases b2 <;> simp
      clear hp
      obtain rfl := (HI.out.2.2.1) e2
      subst hn3
      refine inv_op (o := ⟨some 16, _, _, _, _, _⟩) rfl (fun K' hK' => ?_)
      go_simp
      refine (HF.out W).mono ?_
      rintro e w2 ⟨rfl, rfl⟩
      obtain ⟨h0, h1, h2, h3, h4, h5, h6, h7, h8, h9, gM, gO⟩ := HI.out
      exact hK'.out _ _ ⟨⟨b0, b1, b2, true, b4, b5, b6, b7, b8, b9, s13, s14, _, _, s17, s18, s19, s20, s6, s7⟩, rfl, rfl, h0, h1, h2, (fun _ => rfl), h4, h5, h6, h7, h8, h9, gM, gO⟩
    · have hn4 : b4 = false := by revert hp; cases b4 <;> simp
      have e1 : b1 = true := by revert hp; cases b1 <;> simp
      have e3 : b3 = true := by revert hp; cases b3 <;> simp
      clear hp
      obtain rfl := (HI.out.2.1) e1
      obtain rfl := (HI.out.2.2.2.1) e3
      subst hn4
      refine inv_op (o := ⟨some 17, _, _, _, _, _⟩) rfl (fun K' hK' => ?_)
      go_simp
      obtain ⟨h0, h1, h2, h3, h4, h5, h6, h7, h8, h9, gM, gO⟩ := HI.out
      exact hK'.out _ _ ⟨⟨b0, b1, b2, b3, true, b5, b6, b7, b8, b9, s13, _, s15, _, _, s18, s19, s20, s6, s7⟩, rfl, rfl, h0, h1, h2, h3, (fun _ => rfl), h5, h6, h7, h8, h9, gM, gO⟩
    · have hn5 : b5 = false := by revert hp; cases b5 <;> simp
      have e4 : b4 = true := by revert hp; cases b4 <;> simp
      clear hp
      obtain rfl := (HI.out.2.2.2.2.1) e4
      subst hn5
      refine inv_op (o := ⟨some 18, _, _, _, _, _⟩) rfl (fun K' hK' => ?_)
      go_simp
      obtain ⟨h0, h1, h2, h3, h4, h5, h6, h7, h8, h9, gM, gO⟩ := HI.out
      exact hK'.out _ _ ⟨⟨b0, b1, b2, b3, b4, true, b6, b7, b8, b9, s13, s14, s15, s16, _, _, s19, s20, s6, s7⟩, rfl, rfl, h0, h1, h2, h3, h4, (fun _ => rfl), h6, h7, h8, h9, gM, gO⟩
    · have hn6 : b6 = false := by revert hp; cases b6 <;> simp
      have e0 : b0 = true := by revert hp; cases b0 <;> simp
      have e5 : b5 = true := by revert hp; cases b5 <;> simp
      clear hp
      obtain rfl := (HI.out.1) e0
      obtain rfl := (HI.out.2.2.2.2.2.1) e5
      subst hn6
      refine inv_op (o := ⟨some 19, _, _, _, _, _⟩) rfl (fun K' hK' => ?_)
      have gO := HI.out.2.2.2.2.2.2.2.2.2.2.2
      go_simp
      refine (HG0.out W gO).mono ?_
      rintro e w2 ⟨rfl, bn⟩
      obtain ⟨h0, h1, h2, h3, h4, h5, h6, h7, h8, h9, gM, gO⟩ := HI.out
      exact hK'.out _ _ ⟨⟨b0, b1, b2, b3, b4, b5, true, b7, b8, b9, _, s14, s15, s16, s17, _, _, s20, s6, s7⟩, rfl, rfl, h0, h1, h2, h3, h4, h5, (fun _ => rfl), h7, h8, h9, (row_keep gM bn), (gO.trans (bn.mono gO.size))⟩
    · have hn7 : b7 = false := by revert hp; cases b7 <;> simp
      have e6 : b6 = true := by revert hp; cases b6 <;> simp
      clear hp
      obtain rfl := (HI.out.2.2.2.2.2.2.1) e6
      subst hn7
      refine inv_op (o := ⟨some 20, _, _, _, _, _⟩) rfl (fun K' hK' => ?_)
      go_simp
      obtain ⟨h0, h1, h2, h3, h4, h5, h6, h7, h8, h9, gM, gO⟩ := HI.out
      exact hK'.out _ _ ⟨⟨b0, b1, b2, b3, b4, b5, b6, true, b8, b9, s13, s14, s15, s16, s17, s18, _, _, s6, s7⟩, rfl, rfl, h0, h1, h2, h3, h4, h5, h6, (fun _ => rfl), h8, h9, gM, gO⟩
    · have hn8 : b8 = false := by revert hp; cases b8 <;> simp
      have e7 : b7 = true := by revert hp; cases b7 <;> simp
      clear hp
      obtain rfl := (HI.out.2.2.2.2.2.2.2.1) e7
      subst hn8
      refine inv_op (o := ⟨some 6, _, _, _, _, _⟩) rfl (fun K' hK' => ?_)
      go_simp
      obtain ⟨h0, h1, h2, h3, h4, h5, h6, h7, h8, h9, gM, gO⟩ := HI.out
      exact hK'.out _ _ ⟨⟨b0, b1, b2, b3, b4, b5, b6, b7, true, b9, s13, s14, s15, s16, s17, s18, s19, _, _, s7⟩, rfl, rfl, h0, h1, h2, h3, h4, h5, h6, h7, (fun _ => rfl), h9, gM, gO⟩
    · have hn9 : b9 = false := by revert hp; cases b9 <;> simp
      clear hp
      subst hn9
      refine inv_op (o := ⟨some 7, _, _, _, _, _⟩) rfl (fun K' hK' => ?_)
      go_simp
      obtain ⟨h0, h1, h2, h3, h4, h5, h6, h7, h8, h9, gM, gO⟩ := HI.out
      exact hK'.out _ _ ⟨⟨b0, b1, b2, b3, b4, b5, b6, b7, b8, true, s13, s14, s15, s16, s17, s18, s19, s20, s6, _⟩, rfl, rfl, h0, h1, h2, h3, h4, h5, h6, h7, h8, (fun _ => rfl), gM, gO⟩
  case hdone =>
    rintro ⟨b0, b1, b2, b3, b4, b5, b6, b7, b8, b9, s13, s14, s15, s16, s17, s18, s19, s20, s6, s7⟩ W hI hall
    dsimp only at hI hall ⊢
    have HI := Lib.hid hI
    clear hI
    obtain rfl : b0 = true := hall 0 (by decide)
    obtain rfl : b1 = true := hall 1 (by decide)
    obtain rfl : b2 = true := hall 2 (by decide)
    obtain rfl : b3 = true := hall 3 (by decide)
    obtain rfl : b4 = true := hall 4 (by decide)
    obtain rfl : b5 = true := hall 5 (by decide)
    obtain rfl : b6 = true := hall 6 (by decide)
    obtain rfl : b7 = true := hall 7 (by decide)
    obtain rfl : b8 = true := hall 8 (by decide)
    obtain rfl : b9 = true := hall 9 (by decide)
    obtain rfl := (HI.out.2.2.2.2.2.2.2.2.1) rfl
    obtain rfl := (HI.out.2.2.2.2.2.2.2.2.2.1) rfl
    have gO := HI.out.2.2.2.2.2.2.2.2.2.2.2
    clear HI hall
    have HO := Lib.hid gO
    clear gO
    go_wp2
    go_ret2
    exact ⟨rfl, HO.out⟩
structure RngRefUsedX where
  b0 : Bool
  b1 : Bool
  b2 : Bool
  b3 : Bool
  b4 : Bool
  b5 : Bool
  b6 : Bool
  b7 : Bool
  b8 : Bool
  b9 : Bool
  s13 : Value
  s14 : Value
  s15 : Value
  s16 : Value
  s17 : Value
  s18 : Value
  s19 : Value
  s20 : Value
  s6 : Value
  s7 : Value

set_option maxHeartbeats 4000000 in
set_option maxRecDepth 100000 in
theorem refUsed_in (v : Value) (l : List UInt8) (w : World) (hv : IsArg w v l) (B N : Nat) (hok : RingOk l.length B N)  (p y : Nat) (hp : B + secN N + 2 = p) (hy : numAt l p 2 = y) :
    Calls Try.prog 23 #[.agg #[v], .int .i64 (B : Nat), .int .i64 (N : Nat)] w fun e w' => e = .returned (.tuple #[.int .u16 (y : Nat), .int .i64 0]) ∧ Below w.heap.size w w' := by
  have hN := hok.right.le
  have hsz := sizeN_le N
  have hfit := hok.fits
  have hL := hok.few
  have HL := Lib.hid hL
  have HNN := Lib.hid hN
  have HMX := Lib.hid (show l.length ≤ maxLen by unfold maxLen; omega)
  have HC := Lib.hid hok.ok
  have HV := Lib.hid hv
  obtain ⟨va, vc, rfl, _⟩ := hv.shape
  have HB := Lib.hid ((Below.refl w.heap.size w).alloc (Nat.le_refl _) (.cells #[.slice va l.length vc] 28))
  have HM := Lib.hid (heap_alloc_new w (.cells #[.slice va l.length vc] 28))
  obtain ⟨f1, hf1⟩ : ∃ q, q = secN N := ⟨_, rfl⟩
  obtain ⟨c1, hc1⟩ : ∃ q, q = B + f1 := ⟨_, rfl⟩
  have e2 : (B : Int) + (f1 : Nat) = (c1 : Nat) := by omega
  have e3 : (c1 : Int) + 2 = (p : Nat) := by omega
  have q1 : f1 ≤ 1000 := by omega
  have q2 : c1 ≤ 9000 := by omega
  have hwrc1 : IntKind.i64.wrap ((c1 : Nat) : Int) = (c1 : Nat) := IntWalk.i64_in _ (by omega)
  have hwrp : IntKind.i64.wrap ((p : Nat) : Int) = (p : Nat) := IntWalk.i64_in _ (by omega)
  have HF := Lib.hid (show ∀ W, Calls Try.prog 46 #[.int .i64 (N : Nat)] W fun e w' => e = .returned (.int .i64 (f1 : Nat)) ∧ w' = W from fun W => refSecond_any N f1 hf1.symm hN.2 W)
  have hy2 : y < 65536 := by rw [← hy]; exact numAt_lt l p 2
  have hyw : IntKind.u16.wrap ((y : Nat) : Int) = (y : Nat) := IntWalk.u16_in _ (by omega)
  have HG0 := Lib.hid (show ∀ W, Below w.heap.size w W → Calls Try.prog 42 #[.agg #[.slice va l.length vc], .int .i64 (p : Nat), .int .i64 2] W fun e w' => e = .returned (.int .u64 (y : Nat)) ∧ Below W.heap.size W w' from fun W h => refGet_at _ l p 2 y hL (by omega) (by decide) (by decide) hy W (hv.below h))
  clear hp hf1 hc1 hy hy2
  clear hN hsz hfit hL hok hv
  go_enter Try.func23, Try.ntmps23
  go_wp2_with fail
  refine (refRingCheck_any _ _ _ HMX.out _ _ true HC.out _).mono ?_
  rintro e w1 ⟨rfl, hb⟩
  replace HM := Lib.hid (row_keep HM.out hb)
  replace HB := Lib.hid (HB.out.trans (hb.mono HB.out.size))
  clear hb
  go_wp2_with fail
  refine wp_region_rec (X := RngRefUsedX) (by kernel_rfl) (by kernel_rfl) (fun x => #[x.b0, x.b1, x.b2, x.b3, x.b4, x.b5, x.b6, x.b7, x.b8, x.b9]) (fun x => { tmps := #[Value.agg #[Value.slice va l.length vc], Value.int IntKind.i64 ↑B, Value.int IntKind.i64 ↑N, Value.pointer (some ⟨w.heap.size, 0, none⟩), undef, undef, x.s6, x.s7, Value.agg #[Value.slice va l.length vc], Value.int IntKind.i64 ↑B, Value.int IntKind.i64 ↑N, Value.bool true, Value.bool false, x.s13, x.s14, x.s15, x.s16, x.s17, x.s18, x.s19, x.s20], defers := [] }) (fun x W => (x.b0 = true → x.s13 = .agg #[.slice va l.length vc]) ∧ (x.b1 = true → x.s14 = .int .i64 (B : Nat)) ∧ (x.b2 = true → x.s15 = .int .i64 (N : Nat)) ∧ (x.b3 = true → x.s16 = .int .i64 (f1 : Nat)) ∧ (x.b4 = true → x.s17 = .int .i64 (c1 : Nat)) ∧ (x.b5 = true → x.s18 = .int .i64 (p : Nat)) ∧ (x.b6 = true → x.s19 = .int .u64 (y : Nat)) ∧ (x.b7 = true → x.s20 = .int .u16 (y : Nat)) ∧ (x.b8 = true → x.s6 = .int .u16 (y : Nat)) ∧ (x.b9 = true → x.s7 = .int .i64 0) ∧ (W.heap[w.heap.size]? = some (.cells #[.slice va l.length vc] 28 (0, 0))) ∧ (Below w.heap.size w W)) ⟨false, false, false, false, false, false, false, false, false, false, undef, undef, undef, undef, undef, undef, undef, undef, Value.int IntKind.u16 0, Value.int IntKind.i64 0⟩ rfl rfl ⟨(fun h => by cases h), (fun h => by cases h), (fun h => by cases h), (fun h => by cases h), (fun h => by cases h), (fun h => by cases h), (fun h => by cases h), (fun h => by cases h), (fun h => by cases h), (fun h => by cases h), HM.out, HB.out.drew⟩ (fun _ => rfl) ?hstep ?hdone
  case hstep =>
    rintro ⟨b0, b1, b2, b3, b4, b5, b6, b7, b8, b9, s13, s14, s15, s16, s17, s18, s19, s20, s6, s7⟩ W hI i hi
    dsimp only at hI hi ⊢
    have HI := Lib.hid hI
    clear hI
    rw [Region.ready, List.mem_filter, List.mem_range] at hi
    obtain ⟨hlt, hp⟩ := hi
    have hi7 : i = 0 ∨ i = 1 ∨ i = 2 ∨ i = 3 ∨ i = 4 ∨ i = 5 ∨ i = 6 ∨ i = 7 ∨ i = 8 ∨ i = 9 := by simp at hlt; omega
    clear hlt
    rcases hi7 with rfl | rfl | rfl | rfl | rfl | rfl | rfl | rfl | rfl | rfl
    all_goals simp [Region.binds] at hp
    · have hn0 : b0 = false := by revert hp; cases b0 <;> simp
      clear hp
      subst hn0
      refine inv_op (o := ⟨some 13, _, _, _, _, _⟩) rfl (fun K' hK' => ?_)
      have gM := HI.out.2.2.2.2.2.2.2.2.2.2.1
      obtain ⟨hc1, hc2⟩ := one_cell gM
      go_simp
      obtain ⟨h0, h1, h2, h3, h4, h5, h6, h7, h8, h9, gM, gO⟩ := HI.out
      exact hK'.out _ _ ⟨⟨true, b1, b2, b3, b4, b5, b6, b7, b8, b9, _, s14, s15, s16, s17, s18, s19, s20, s6, s7⟩, rfl, rfl, (fun _ => rfl), h1, h2, h3, h4, h5, h6, h7, h8, h9, gM, gO⟩
    · have hn1 : b1 = false := by revert hp; cases b1 <;> simp
      clear hp
      subst hn1
      refine inv_op (o := ⟨some 14, _, _, _, _, _⟩) rfl (fun K' hK' => ?_)
      go_simp
      obtain ⟨h0, h1, h2, h3, h4, h5, h6, h7, h8, h9, gM, gO⟩ := HI.out
      exact hK'.out _ _ ⟨⟨b0, true, b2, b3, b4, b5, b6, b7, b8, b9, s13, _, s15, s16, s17, s18, s19, s20, s6, s7⟩, rfl, rfl, h0, (fun _ => rfl), h2, h3, h4, h5, h6, h7, h8, h9, gM, gO⟩
    · have hn2 : b2 = false := by revert hp; cases b2 <;> simp
      clear hp
      subst hn2
      refine inv_op (o := ⟨some 15, _, _, _, _, _⟩) rfl (fun K' hK' => ?_)
      go_simp
      obtain ⟨h0, h1, h2, h3, h4, h5, h6, h7, h8, h9, gM, gO⟩ := HI.out
      exact hK'.out _ _ ⟨⟨b0, b1, true, b3, b4, b5, b6, b7, b8, b9, s13, s14, _, s16, s17, s18, s19, s20, s6, s7⟩, rfl, rfl, h0, h1, (fun _ => rfl), h3, h4, h5, h6, h7, h8, h9, gM, gO⟩
    · have hn3 : b3 = false := by revert hp; cases b3 <;> simp
      have e2 : b2 = true := by revert hp; cases b2 <;> simp
      clear hp
      obtain rfl := (HI.out.2.2.1) e2
      subst hn3
      refine inv_op (o := ⟨some 16, _, _, _, _, _⟩) rfl (fun K' hK' => ?_)
      go_simp
      refine (HF.out W).mono ?_
      rintro e w2 ⟨rfl, rfl⟩
      obtain ⟨h0, h1, h2, h3, h4, h5, h6, h7, h8, h9, gM, gO⟩ := HI.out
      exact hK'.out _ _ ⟨⟨b0, b1, b2, true, b4, b5, b6, b7, b8, b9, s13, s14, _, _, s17, s18, s19, s20, s6, s7⟩, rfl, rfl, h0, h1, h2, (fun _ => rfl), h4, h5, h6, h7, h8, h9, gM, gO⟩
    · have hn4 : b4 = false := by revert hp; cases b4 <;> simp
      have e1 : b1 = true := by revert hp; cases b1 <;> simp
      have e3 : b3 = true := by revert hp; cases b3 <;> simp
      clear hp
      obtain rfl := (HI.out.2.1) e1
      obtain rfl := (HI.out.2.2.2.1) e3
      subst hn4
      refine inv_op (o := ⟨some 17, _, _, _, _, _⟩) rfl (fun K' hK' => ?_)
      go_simp
      obtain ⟨h0, h1, h2, h3, h4, h5, h6, h7, h8, h9, gM, gO⟩ := HI.out
      exact hK'.out _ _ ⟨⟨b0, b1, b2, b3, true, b5, b6, b7, b8, b9, s13, _, s15, _, _, s18, s19, s20, s6, s7⟩, rfl, rfl, h0, h1, h2, h3, (fun _ => rfl), h5, h6, h7, h8, h9, gM, gO⟩
    · have hn5 : b5 = false := by revert hp; cases b5 <;> simp
      have e4 : b4 = true := by revert hp; cases b4 <;> simp
      clear hp
      obtain rfl := (HI.out.2.2.2.2.1) e4
      subst hn5
      refine inv_op (o := ⟨some 18, _, _, _, _, _⟩) rfl (fun K' hK' => ?_)
      go_simp
      obtain ⟨h0, h1, h2, h3, h4, h5, h6, h7, h8, h9, gM, gO⟩ := HI.out
      exact hK'.out _ _ ⟨⟨b0, b1, b2, b3, b4, true, b6, b7, b8, b9, s13, s14, s15, s16, _, _, s19, s20, s6, s7⟩, rfl, rfl, h0, h1, h2, h3, h4, (fun _ => rfl), h6, h7, h8, h9, gM, gO⟩
    · have hn6 : b6 = false := by revert hp; cases b6 <;> simp
      have e0 : b0 = true := by revert hp; cases b0 <;> simp
      have e5 : b5 = true := by revert hp; cases b5 <;> simp
      clear hp
      obtain rfl := (HI.out.1) e0
      obtain rfl := (HI.out.2.2.2.2.2.1) e5
      subst hn6
      refine inv_op (o := ⟨some 19, _, _, _, _, _⟩) rfl (fun K' hK' => ?_)
      have gO := HI.out.2.2.2.2.2.2.2.2.2.2.2
      go_simp
      refine (HG0.out W gO).mono ?_
      rintro e w2 ⟨rfl, bn⟩
      obtain ⟨h0, h1, h2, h3, h4, h5, h6, h7, h8, h9, gM, gO⟩ := HI.out
      exact hK'.out _ _ ⟨⟨b0, b1, b2, b3, b4, b5, true, b7, b8, b9, _, s14, s15, s16, s17, _, _, s20, s6, s7⟩, rfl, rfl, h0, h1, h2, h3, h4, h5, (fun _ => rfl), h7, h8, h9, (row_keep gM bn), (gO.trans (bn.mono gO.size))⟩
    · have hn7 : b7 = false := by revert hp; cases b7 <;> simp
      have e6 : b6 = true := by revert hp; cases b6 <;> simp
      clear hp
      obtain rfl := (HI.out.2.2.2.2.2.2.1) e6
      subst hn7
      refine inv_op (o := ⟨some 20, _, _, _, _, _⟩) rfl (fun K' hK' => ?_)
      go_simp
      obtain ⟨h0, h1, h2, h3, h4, h5, h6, h7, h8, h9, gM, gO⟩ := HI.out
      exact hK'.out _ _ ⟨⟨b0, b1, b2, b3, b4, b5, b6, true, b8, b9, s13, s14, s15, s16, s17, s18, _, _, s6, s7⟩, rfl, rfl, h0, h1, h2, h3, h4, h5, h6, (fun _ => rfl), h8, h9, gM, gO⟩
    · have hn8 : b8 = false := by revert hp; cases b8 <;> simp
      have e7 : b7 = true := by revert hp; cases b7 <;> simp
      clear hp
      obtain rfl := (HI.out.2.2.2.2.2.2.2.1) e7
      subst hn8
      refine inv_op (o := ⟨some 6, _, _, _, _, _⟩) rfl (fun K' hK' => ?_)
      go_simp
      obtain ⟨h0, h1, h2, h3, h4, h5, h6, h7, h8, h9, gM, gO⟩ := HI.out
      exact hK'.out _ _ ⟨⟨b0, b1, b2, b3, b4, b5, b6, b7, true, b9, s13, s14, s15, s16, s17, s18, s19, _, _, s7⟩, rfl, rfl, h0, h1, h2, h3, h4, h5, h6, h7, (fun _ => rfl), h9, gM, gO⟩
    · have hn9 : b9 = false := by revert hp; cases b9 <;> simp
      clear hp
      subst hn9
      refine inv_op (o := ⟨some 7, _, _, _, _, _⟩) rfl (fun K' hK' => ?_)
      go_simp
      obtain ⟨h0, h1, h2, h3, h4, h5, h6, h7, h8, h9, gM, gO⟩ := HI.out
      exact hK'.out _ _ ⟨⟨b0, b1, b2, b3, b4, b5, b6, b7, b8, true, s13, s14, s15, s16, s17, s18, s19, s20, s6, _⟩, rfl, rfl, h0, h1, h2, h3, h4, h5, h6, h7, h8, (fun _ => rfl), gM, gO⟩
  case hdone =>
    rintro ⟨b0, b1, b2, b3, b4, b5, b6, b7, b8, b9, s13, s14, s15, s16, s17, s18, s19, s20, s6, s7⟩ W hI hall
    dsimp only at hI hall ⊢
    have HI := Lib.hid hI
    clear hI
    obtain rfl : b0 = true := hall 0 (by decide)
    obtain rfl : b1 = true := hall 1 (by decide)
    obtain rfl : b2 = true := hall 2 (by decide)
    obtain rfl : b3 = true := hall 3 (by decide)
    obtain rfl : b4 = true := hall 4 (by decide)
    obtain rfl : b5 = true := hall 5 (by decide)
    obtain rfl : b6 = true := hall 6 (by decide)
    obtain rfl : b7 = true := hall 7 (by decide)
    obtain rfl : b8 = true := hall 8 (by decide)
    obtain rfl : b9 = true := hall 9 (by decide)
    obtain rfl := (HI.out.2.2.2.2.2.2.2.2.1) rfl
    obtain rfl := (HI.out.2.2.2.2.2.2.2.2.2.1) rfl
    have gO := HI.out.2.2.2.2.2.2.2.2.2.2.2
    clear HI hall
    have HO := Lib.hid gO
    clear gO
    go_wp2
    go_ret2
    exact ⟨rfl, HO.out⟩
structure RngRefAvailAtX where
  b0 : Bool
  b1 : Bool
  b2 : Bool
  b3 : Bool
  b4 : Bool
  b5 : Bool
  b6 : Bool
  b7 : Bool
  b8 : Bool
  b9 : Bool
  b10 : Bool
  b11 : Bool
  b12 : Bool
  b13 : Bool
  b14 : Bool
  b15 : Bool
  s15 : Value
  s16 : Value
  s17 : Value
  s18 : Value
  s19 : Value
  s20 : Value
  s21 : Value
  s22 : Value
  s23 : Value
  s24 : Value
  s25 : Value
  s26 : Value
  s27 : Value
  s28 : Value
  s8 : Value
  s9 : Value

set_option maxHeartbeats 4000000 in
set_option maxRecDepth 100000 in
theorem refAvailAt_in (v : Value) (l : List UInt8) (w : World) (hv : IsArg w v l) (B N : Nat) (hok : RingOk l.length B N) (k : Nat) (hk : k < 65536) (p y : Nat) (hp : B + 16 * N + 4 + 2 * (k % N) = p) (hy : numAt l p 2 = y) :
    Calls Try.prog 24 #[.agg #[v], .int .i64 (B : Nat), .int .i64 (N : Nat), .int .u16 (k : Nat)] w fun e w' => e = .returned (.tuple #[.int .i64 (y : Nat), .int .i64 0]) ∧ Below w.heap.size w w' := by
  have hN := hok.right.le
  have hsz := sizeN_le N
  have hfit := hok.fits
  have hL := hok.few
  have HL := Lib.hid hL
  have HNN := Lib.hid hN
  have HMX := Lib.hid (show l.length ≤ maxLen by unfold maxLen; omega)
  have HC := Lib.hid hok.ok
  have HV := Lib.hid hv
  obtain ⟨va, vc, rfl, _⟩ := hv.shape
  have HB := Lib.hid ((Below.refl w.heap.size w).alloc (Nat.le_refl _) (.cells #[.slice va l.length vc] 28))
  have HM := Lib.hid (heap_alloc_new w (.cells #[.slice va l.length vc] 28))
  obtain ⟨f1, hf1⟩ : ∃ q, q = 16 * N := ⟨_, rfl⟩
  obtain ⟨c1, hc1⟩ : ∃ q, q = B + f1 := ⟨_, rfl⟩
  obtain ⟨c2, hc2⟩ : ∃ q, q = c1 + 4 := ⟨_, rfl⟩
  have e2 : (B : Int) + (f1 : Nat) = (c1 : Nat) := by omega
  have e3 : (c1 : Int) + 4 = (c2 : Nat) := by omega
  have q1 : f1 ≤ 1000 := by omega
  have q2 : c1 ≤ 9000 := by omega
  have hwrc1 : IntKind.i64.wrap ((c1 : Nat) : Int) = (c1 : Nat) := IntWalk.i64_in _ (by omega)
  have hwrc2 : IntKind.i64.wrap ((c2 : Nat) : Int) = (c2 : Nat) := IntWalk.i64_in _ (by omega)
  have HF := Lib.hid (show ∀ W, Calls Try.prog 45 #[.int .i64 (N : Nat)] W fun e w' => e = .returned (.int .i64 (f1 : Nat)) ∧ w' = W from fun W => refFirst_any N f1 hf1.symm hN.2 W)
  obtain ⟨j, hj⟩ : ∃ j, k % N = j := ⟨_, rfl⟩
  have hjn : j < N := by rw [← hj]; exact Nat.mod_lt _ (by omega)
  rw [hj] at hp
  obtain ⟨q, hq⟩ : ∃ q, q = 2 * j := ⟨_, rfl⟩
  have htm : ((k : Nat) : Int).tmod ((N : Nat) : Int) = (j : Nat) := by rw [Int.tmod_eq_emod_of_nonneg (by omega)]; omega
  have hz : ¬ (N = 0) := by omega
  have hwj : IntKind.i64.wrap ((j : Nat) : Int) = (j : Nat) := IntWalk.i64_in _ (by omega)
  have hwk : IntKind.i64.wrap ((k : Nat) : Int) = (k : Nat) := IntWalk.i64_in _ (by omega)
  have hem : (k : Int) % (N : Nat) = (j : Nat) := by omega
  have e6 : (2 : Int) * (j : Nat) = (q : Nat) := by omega
  have e7 : (c2 : Int) + (q : Nat) = (p : Nat) := by omega
  have q3 : j ≤ 16 := by omega
  have q4 : q ≤ 1000 := by omega
  have hwrq : IntKind.i64.wrap ((q : Nat) : Int) = (q : Nat) := IntWalk.i64_in _ (by omega)
  have hwrp : IntKind.i64.wrap ((p : Nat) : Int) = (p : Nat) := IntWalk.i64_in _ (by omega)
  have hy2 : y < 65536 := by rw [← hy]; exact numAt_lt l p 2
  have hyw : IntKind.i64.wrap ((y : Nat) : Int) = (y : Nat) := IntWalk.i64_in _ (by omega)
  have HG0 := Lib.hid (show ∀ W, Below w.heap.size w W → Calls Try.prog 42 #[.agg #[.slice va l.length vc], .int .i64 (p : Nat), .int .i64 2] W fun e w' => e = .returned (.int .u64 (y : Nat)) ∧ Below W.heap.size W w' from fun W h => refGet_at _ l p 2 y hL (by omega) (by decide) (by decide) hy W (hv.below h))
  clear hp hf1 hc1 hc2 hy hy2 hk hj hq hjn
  clear hN hsz hfit hL hok hv
  go_enter Try.func24, Try.ntmps24
  go_wp2_with fail
  refine (refRingCheck_any _ _ _ HMX.out _ _ true HC.out _).mono ?_
  rintro e w1 ⟨rfl, hb⟩
  replace HM := Lib.hid (row_keep HM.out hb)
  replace HB := Lib.hid (HB.out.trans (hb.mono HB.out.size))
  clear hb
  go_wp2_with fail
  refine wp_region_rec (X := RngRefAvailAtX) (by kernel_rfl) (by kernel_rfl) (fun x => #[x.b0, x.b1, x.b2, x.b3, x.b4, x.b5, x.b6, x.b7, x.b8, x.b9, x.b10, x.b11, x.b12, x.b13, x.b14, x.b15]) (fun x => { tmps := #[Value.agg #[Value.slice va l.length vc], Value.int IntKind.i64 ↑B, Value.int IntKind.i64 ↑N, Value.int IntKind.u16 ↑k, Value.pointer (some ⟨w.heap.size, 0, none⟩), undef, undef, undef, x.s8, x.s9, Value.agg #[Value.slice va l.length vc], Value.int IntKind.i64 ↑B, Value.int IntKind.i64 ↑N, Value.bool true, Value.bool false, x.s15, x.s16, x.s17, x.s18, x.s19, x.s20, x.s21, x.s22, x.s23, x.s24, x.s25, x.s26, x.s27, x.s28], defers := [] }) (fun x W => (x.b0 = true → x.s15 = .agg #[.slice va l.length vc]) ∧ (x.b1 = true → x.s16 = .int .i64 (B : Nat)) ∧ (x.b2 = true → x.s17 = .int .i64 (N : Nat)) ∧ (x.b3 = true → x.s18 = .int .i64 (f1 : Nat)) ∧ (x.b4 = true → x.s19 = .int .i64 (c1 : Nat)) ∧ (x.b5 = true → x.s20 = .int .i64 (c2 : Nat)) ∧ (x.b6 = true → x.s21 = .int .u16 (k : Nat)) ∧ (x.b7 = true → x.s22 = .int .i64 (k : Nat)) ∧ (x.b8 = true → x.s23 = .int .i64 (N : Nat)) ∧ (x.b9 = true → x.s24 = .int .i64 (j : Nat)) ∧ (x.b10 = true → x.s25 = .int .i64 (q : Nat)) ∧ (x.b11 = true → x.s26 = .int .i64 (p : Nat)) ∧ (x.b12 = true → x.s27 = .int .u64 (y : Nat)) ∧ (x.b13 = true → x.s28 = .int .i64 (y : Nat)) ∧ (x.b14 = true → x.s8 = .int .i64 (y : Nat)) ∧ (x.b15 = true → x.s9 = .int .i64 0) ∧ (W.heap[w.heap.size]? = some (.cells #[.slice va l.length vc] 28 (0, 0))) ∧ (Below w.heap.size w W)) ⟨false, false, false, false, false, false, false, false, false, false, false, false, false, false, false, false, undef, undef, undef, undef, undef, undef, undef, undef, undef, undef, undef, undef, undef, undef, Value.int IntKind.i64 0, Value.int IntKind.i64 0⟩ rfl rfl ⟨(fun h => by cases h), (fun h => by cases h), (fun h => by cases h), (fun h => by cases h), (fun h => by cases h), (fun h => by cases h), (fun h => by cases h), (fun h => by cases h), (fun h => by cases h), (fun h => by cases h), (fun h => by cases h), (fun h => by cases h), (fun h => by cases h), (fun h => by cases h), (fun h => by cases h), (fun h => by cases h), HM.out, HB.out.drew⟩ (fun _ => rfl) ?hstep ?hdone
  case hstep =>
    rintro ⟨b0, b1, b2, b3, b4, b5, b6, b7, b8, b9, b10, b11, b12, b13, b14, b15, s15, s16, s17, s18, s19, s20, s21, s22, s23, s24, s25, s26, s27, s28, s8, s9⟩ W hI i hi
    dsimp only at hI hi ⊢
    have HI := Lib.hid hI
    clear hI
    rw [Region.ready, List.mem_filter, List.mem_range] at hi
    obtain ⟨hlt, hp⟩ := hi
    have hi7 : i = 0 ∨ i = 1 ∨ i = 2 ∨ i = 3 ∨ i = 4 ∨ i = 5 ∨ i = 6 ∨ i = 7 ∨ i = 8 ∨ i = 9 ∨ i = 10 ∨ i = 11 ∨ i = 12 ∨ i = 13 ∨ i = 14 ∨ i = 15 := by simp at hlt; omega
    clear hlt
    rcases hi7 with rfl | rfl | rfl | rfl | rfl | rfl | rfl | rfl | rfl | rfl | rfl | rfl | rfl | rfl | rfl | rfl
    all_goals simp [Region.binds] at hp
    · have hn0 : b0 = false := by revert hp; cases b0 <;> simp
      clear hp
      subst hn0
      refine inv_op (o := ⟨some 15, _, _, _, _, _⟩) rfl (fun K' hK' => ?_)
      have gM := HI.out.2.2.2.2.2.2.2.2.2.2.2.2.2.2.2.2.1
      obtain ⟨hc1, hc2⟩ := one_cell gM
      go_simp
      obtain ⟨h0, h1, h2, h3, h4, h5, h6, h7, h8, h9, h10, h11, h12, h13, h14, h15, gM, gO⟩ := HI.out
      exact hK'.out _ _ ⟨⟨true, b1, b2, b3, b4, b5, b6, b7, b8, b9, b10, b11, b12, b13, b14, b15, _, s16, s17, s18, s19, s20, s21, s22, s23, s24, s25, s26, s27, s28, s8, s9⟩, rfl, rfl, (fun _ => rfl), h1, h2, h3, h4, h5, h6, h7, h8, h9, h10, h11, h12, h13, h14, h15, gM, gO⟩
    · have hn1 : b1 = false := by revert hp; cases b1 <;> simp
      clear hp
      subst hn1
      refine inv_op (o := ⟨some 16, _, _, _, _, _⟩) rfl (fun K' hK' => ?_)
      go_simp
      obtain ⟨h0, h1, h2, h3, h4, h5, h6, h7, h8, h9, h10, h11, h12, h13, h14, h15, gM, gO⟩ := HI.out
      exact hK'.out _ _ ⟨⟨b0, true, b2, b3, b4, b5, b6, b7, b8, b9, b10, b11, b12, b13, b14, b15, s15, _, s17, s18, s19, s20, s21, s22, s23, s24, s25, s26, s27, s28, s8, s9⟩, rfl, rfl, h0, (fun _ => rfl), h2, h3, h4, h5, h6, h7, h8, h9, h10, h11, h12, h13, h14, h15, gM, gO⟩
    · have hn2 : b2 = false := by revert hp; cases b2 <;> simp
      clear hp
      subst hn2
      refine inv_op (o := ⟨some 17, _, _, _, _, _⟩) rfl (fun K' hK' => ?_)
      go_simp
      obtain ⟨h0, h1, h2, h3, h4, h5, h6, h7, h8, h9, h10, h11, h12, h13, h14, h15, gM, gO⟩ := HI.out
      exact hK'.out _ _ ⟨⟨b0, b1, true, b3, b4, b5, b6, b7, b8, b9, b10, b11, b12, b13, b14, b15, s15, s16, _, s18, s19, s20, s21, s22, s23, s24, s25, s26, s27, s28, s8, s9⟩, rfl, rfl, h0, h1, (fun _ => rfl), h3, h4, h5, h6, h7, h8, h9, h10, h11, h12, h13, h14, h15, gM, gO⟩
    · have hn3 : b3 = false := by revert hp; cases b3 <;> simp
      have e2 : b2 = true := by revert hp; cases b2 <;> simp
      clear hp
      obtain rfl := (HI.out.2.2.1) e2
      subst hn3
      refine inv_op (o := ⟨some 18, _, _, _, _, _⟩) rfl (fun K' hK' => ?_)
      go_simp
      refine (HF.out W).mono ?_
      rintro e w2 ⟨rfl, rfl⟩
      obtain ⟨h0, h1, h2, h3, h4, h5, h6, h7, h8, h9, h10, h11, h12, h13, h14, h15, gM, gO⟩ := HI.out
      exact hK'.out _ _ ⟨⟨b0, b1, b2, true, b4, b5, b6, b7, b8, b9, b10, b11, b12, b13, b14, b15, s15, s16, _, _, s19, s20, s21, s22, s23, s24, s25, s26, s27, s28, s8, s9⟩, rfl, rfl, h0, h1, h2, (fun _ => rfl), h4, h5, h6, h7, h8, h9, h10, h11, h12, h13, h14, h15, gM, gO⟩
    · have hn4 : b4 = false := by revert hp; cases b4 <;> simp
      have e1 : b1 = true := by revert hp; cases b1 <;> simp
      have e3 : b3 = true := by revert hp; cases b3 <;> simp
      clear hp
      obtain rfl := (HI.out.2.1) e1
      obtain rfl := (HI.out.2.2.2.1) e3
      subst hn4
      refine inv_op (o := ⟨some 19, _, _, _, _, _⟩) rfl (fun K' hK' => ?_)
      go_simp
      obtain ⟨h0, h1, h2, h3, h4, h5, h6, h7, h8, h9, h10, h11, h12, h13, h14, h15, gM, gO⟩ := HI.out
      exact hK'.out _ _ ⟨⟨b0, b1, b2, b3, true, b5, b6, b7, b8, b9, b10, b11, b12, b13, b14, b15, s15, _, s17, _, _, s20, s21, s22, s23, s24, s25, s26, s27, s28, s8, s9⟩, rfl, rfl, h0, h1, h2, h3, (fun _ => rfl), h5, h6, h7, h8, h9, h10, h11, h12, h13, h14, h15, gM, gO⟩
    · have hn5 : b5 = false := by revert hp; cases b5 <;> simp
      have e4 : b4 = true := by revert hp; cases b4 <;> simp
      clear hp
      obtain rfl := (HI.out.2.2.2.2.1) e4
      subst hn5
      refine inv_op (o := ⟨some 20, _, _, _, _, _⟩) rfl (fun K' hK' => ?_)
      go_simp
      obtain ⟨h0, h1, h2, h3, h4, h5, h6, h7, h8, h9, h10, h11, h12, h13, h14, h15, gM, gO⟩ := HI.out
      exact hK'.out _ _ ⟨⟨b0, b1, b2, b3, b4, true, b6, b7, b8, b9, b10, b11, b12, b13, b14, b15, s15, s16, s17, s18, _, _, s21, s22, s23, s24, s25, s26, s27, s28, s8, s9⟩, rfl, rfl, h0, h1, h2, h3, h4, (fun _ => rfl), h6, h7, h8, h9, h10, h11, h12, h13, h14, h15, gM, gO⟩
    · have hn6 : b6 = false := by revert hp; cases b6 <;> simp
      clear hp
      subst hn6
      refine inv_op (o := ⟨some 21, _, _, _, _, _⟩) rfl (fun K' hK' => ?_)
      go_simp
      obtain ⟨h0, h1, h2, h3, h4, h5, h6, h7, h8, h9, h10, h11, h12, h13, h14, h15, gM, gO⟩ := HI.out
      exact hK'.out _ _ ⟨⟨b0, b1, b2, b3, b4, b5, true, b7, b8, b9, b10, b11, b12, b13, b14, b15, s15, s16, s17, s18, s19, s20, _, s22, s23, s24, s25, s26, s27, s28, s8, s9⟩, rfl, rfl, h0, h1, h2, h3, h4, h5, (fun _ => rfl), h7, h8, h9, h10, h11, h12, h13, h14, h15, gM, gO⟩
    · have hn7 : b7 = false := by revert hp; cases b7 <;> simp
      have e6 : b6 = true := by revert hp; cases b6 <;> simp
      clear hp
      obtain rfl := (HI.out.2.2.2.2.2.2.1) e6
      subst hn7
      refine inv_op (o := ⟨some 22, _, _, _, _, _⟩) rfl (fun K' hK' => ?_)
      go_simp
      obtain ⟨h0, h1, h2, h3, h4, h5, h6, h7, h8, h9, h10, h11, h12, h13, h14, h15, gM, gO⟩ := HI.out
      exact hK'.out _ _ ⟨⟨b0, b1, b2, b3, b4, b5, b6, true, b8, b9, b10, b11, b12, b13, b14, b15, s15, s16, s17, s18, s19, s20, _, _, s23, s24, s25, s26, s27, s28, s8, s9⟩, rfl, rfl, h0, h1, h2, h3, h4, h5, h6, (fun _ => rfl), h8, h9, h10, h11, h12, h13, h14, h15, gM, gO⟩
    · have hn8 : b8 = false := by revert hp; cases b8 <;> simp
      clear hp
      subst hn8
      refine inv_op (o := ⟨some 23, _, _, _, _, _⟩) rfl (fun K' hK' => ?_)
      go_simp
      obtain ⟨h0, h1, h2, h3, h4, h5, h6, h7, h8, h9, h10, h11, h12, h13, h14, h15, gM, gO⟩ := HI.out
      exact hK'.out _ _ ⟨⟨b0, b1, b2, b3, b4, b5, b6, b7, true, b9, b10, b11, b12, b13, b14, b15, s15, s16, s17, s18, s19, s20, s21, s22, _, s24, s25, s26, s27, s28, s8, s9⟩, rfl, rfl, h0, h1, h2, h3, h4, h5, h6, h7, (fun _ => rfl), h9, h10, h11, h12, h13, h14, h15, gM, gO⟩
    · have hn9 : b9 = false := by revert hp; cases b9 <;> simp
      have e7 : b7 = true := by revert hp; cases b7 <;> simp
      have e8 : b8 = true := by revert hp; cases b8 <;> simp
      clear hp
      obtain rfl := (HI.out.2.2.2.2.2.2.2.1) e7
      obtain rfl := (HI.out.2.2.2.2.2.2.2.2.1) e8
      subst hn9
      refine inv_op (o := ⟨some 24, _, _, _, _, _⟩) rfl (fun K' hK' => ?_)
      go_simp
      obtain ⟨h0, h1, h2, h3, h4, h5, h6, h7, h8, h9, h10, h11, h12, h13, h14, h15, gM, gO⟩ := HI.out
      exact hK'.out _ _ ⟨⟨b0, b1, b2, b3, b4, b5, b6, b7, b8, true, b10, b11, b12, b13, b14, b15, s15, s16, s17, s18, s19, s20, s21, _, _, _, s25, s26, s27, s28, s8, s9⟩, rfl, rfl, h0, h1, h2, h3, h4, h5, h6, h7, h8, (fun _ => rfl), h10, h11, h12, h13, h14, h15, gM, gO⟩
    · have hn10 : b10 = false := by revert hp; cases b10 <;> simp
      have e9 : b9 = true := by revert hp; cases b9 <;> simp
      clear hp
      obtain rfl := (HI.out.2.2.2.2.2.2.2.2.2.1) e9
      subst hn10
      refine inv_op (o := ⟨some 25, _, _, _, _, _⟩) rfl (fun K' hK' => ?_)
      go_simp
      obtain ⟨h0, h1, h2, h3, h4, h5, h6, h7, h8, h9, h10, h11, h12, h13, h14, h15, gM, gO⟩ := HI.out
      exact hK'.out _ _ ⟨⟨b0, b1, b2, b3, b4, b5, b6, b7, b8, b9, true, b11, b12, b13, b14, b15, s15, s16, s17, s18, s19, s20, s21, s22, s23, _, _, s26, s27, s28, s8, s9⟩, rfl, rfl, h0, h1, h2, h3, h4, h5, h6, h7, h8, h9, (fun _ => rfl), h11, h12, h13, h14, h15, gM, gO⟩
    · have hn11 : b11 = false := by revert hp; cases b11 <;> simp
      have e5 : b5 = true := by revert hp; cases b5 <;> simp
      have e10 : b10 = true := by revert hp; cases b10 <;> simp
      clear hp
      obtain rfl := (HI.out.2.2.2.2.2.1) e5
      obtain rfl := (HI.out.2.2.2.2.2.2.2.2.2.2.1) e10
      subst hn11
      refine inv_op (o := ⟨some 26, _, _, _, _, _⟩) rfl (fun K' hK' => ?_)
      go_simp
      obtain ⟨h0, h1, h2, h3, h4, h5, h6, h7, h8, h9, h10, h11, h12, h13, h14, h15, gM, gO⟩ := HI.out
      exact hK'.out _ _ ⟨⟨b0, b1, b2, b3, b4, b5, b6, b7, b8, b9, b10, true, b12, b13, b14, b15, s15, s16, s17, s18, s19, _, s21, s22, s23, s24, _, _, s27, s28, s8, s9⟩, rfl, rfl, h0, h1, h2, h3, h4, h5, h6, h7, h8, h9, h10, (fun _ => rfl), h12, h13, h14, h15, gM, gO⟩
    · have hn12 : b12 = false := by revert hp; cases b12 <;> simp
      have e0 : b0 = true := by revert hp; cases b0 <;> simp
      have e11 : b11 = true := by revert hp; cases b11 <;> simp
      clear hp
      obtain rfl := (HI.out.1) e0
      obtain rfl := (HI.out.2.2.2.2.2.2.2.2.2.2.2.1) e11
      subst hn12
      refine inv_op (o := ⟨some 27, _, _, _, _, _⟩) rfl (fun K' hK' => ?_)
      have gO := HI.out.2.2.2.2.2.2.2.2.2.2.2.2.2.2.2.2.2
      go_simp
      refine (HG0.out W gO).mono ?_
      rintro e w2 ⟨rfl, bn⟩
      obtain ⟨h0, h1, h2, h3, h4, h5, h6, h7, h8, h9, h10, h11, h12, h13, h14, h15, gM, gO⟩ := HI.out
      exact hK'.out _ _ ⟨⟨b0, b1, b2, b3, b4, b5, b6, b7, b8, b9, b10, b11, true, b13, b14, b15, _, s16, s17, s18, s19, s20, s21, s22, s23, s24, s25, _, _, s28, s8, s9⟩, rfl, rfl, h0, h1, h2, h3, h4, h5, h6, h7, h8, h9, h10, h11, (fun _ => rfl), h13, h14, h15, (row_keep gM bn), (gO.trans (bn.mono gO.size))⟩
    · have hn13 : b13 = false := by revert hp; cases b13 <;> simp
      have e12 : b12 = true := by revert hp; cases b12 <;> simp
      clear hp
      obtain rfl := (HI.out.2.2.2.2.2.2.2.2.2.2.2.2.1) e12
      subst hn13
      refine inv_op (o := ⟨some 28, _, _, _, _, _⟩) rfl (fun K' hK' => ?_)
      go_simp
      obtain ⟨h0, h1, h2, h3, h4, h5, h6, h7, h8, h9, h10, h11, h12, h13, h14, h15, gM, gO⟩ := HI.out
      exact hK'.out _ _ ⟨⟨b0, b1, b2, b3, b4, b5, b6, b7, b8, b9, b10, b11, b12, true, b14, b15, s15, s16, s17, s18, s19, s20, s21, s22, s23, s24, s25, s26, _, _, s8, s9⟩, rfl, rfl, h0, h1, h2, h3, h4, h5, h6, h7, h8, h9, h10, h11, h12, (fun _ => rfl), h14, h15, gM, gO⟩
    · have hn14 : b14 = false := by revert hp; cases b14 <;> simp
      have e13 : b13 = true := by revert hp; cases b13 <;> simp
      clear hp
      obtain rfl := (HI.out.2.2.2.2.2.2.2.2.2.2.2.2.2.1) e13
      subst hn14
      refine inv_op (o := ⟨some 8, _, _, _, _, _⟩) rfl (fun K' hK' => ?_)
      go_simp
      obtain ⟨h0, h1, h2, h3, h4, h5, h6, h7, h8, h9, h10, h11, h12, h13, h14, h15, gM, gO⟩ := HI.out
      exact hK'.out _ _ ⟨⟨b0, b1, b2, b3, b4, b5, b6, b7, b8, b9, b10, b11, b12, b13, true, b15, s15, s16, s17, s18, s19, s20, s21, s22, s23, s24, s25, s26, s27, _, _, s9⟩, rfl, rfl, h0, h1, h2, h3, h4, h5, h6, h7, h8, h9, h10, h11, h12, h13, (fun _ => rfl), h15, gM, gO⟩
    · have hn15 : b15 = false := by revert hp; cases b15 <;> simp
      clear hp
      subst hn15
      refine inv_op (o := ⟨some 9, _, _, _, _, _⟩) rfl (fun K' hK' => ?_)
      go_simp
      obtain ⟨h0, h1, h2, h3, h4, h5, h6, h7, h8, h9, h10, h11, h12, h13, h14, h15, gM, gO⟩ := HI.out
      exact hK'.out _ _ ⟨⟨b0, b1, b2, b3, b4, b5, b6, b7, b8, b9, b10, b11, b12, b13, b14, true, s15, s16, s17, s18, s19, s20, s21, s22, s23, s24, s25, s26, s27, s28, s8, _⟩, rfl, rfl, h0, h1, h2, h3, h4, h5, h6, h7, h8, h9, h10, h11, h12, h13, h14, (fun _ => rfl), gM, gO⟩
  case hdone =>
    rintro ⟨b0, b1, b2, b3, b4, b5, b6, b7, b8, b9, b10, b11, b12, b13, b14, b15, s15, s16, s17, s18, s19, s20, s21, s22, s23, s24, s25, s26, s27, s28, s8, s9⟩ W hI hall
    dsimp only at hI hall ⊢
    have HI := Lib.hid hI
    clear hI
    obtain rfl : b0 = true := hall 0 (by decide)
    obtain rfl : b1 = true := hall 1 (by decide)
    obtain rfl : b2 = true := hall 2 (by decide)
    obtain rfl : b3 = true := hall 3 (by decide)
    obtain rfl : b4 = true := hall 4 (by decide)
    obtain rfl : b5 = true := hall 5 (by decide)
    obtain rfl : b6 = true := hall 6 (by decide)
    obtain rfl : b7 = true := hall 7 (by decide)
    obtain rfl : b8 = true := hall 8 (by decide)
    obtain rfl : b9 = true := hall 9 (by decide)
    obtain rfl : b10 = true := hall 10 (by decide)
    obtain rfl : b11 = true := hall 11 (by decide)
    obtain rfl : b12 = true := hall 12 (by decide)
    obtain rfl : b13 = true := hall 13 (by decide)
    obtain rfl : b14 = true := hall 14 (by decide)
    obtain rfl : b15 = true := hall 15 (by decide)
    obtain rfl := (HI.out.2.2.2.2.2.2.2.2.2.2.2.2.2.2.1) rfl
    obtain rfl := (HI.out.2.2.2.2.2.2.2.2.2.2.2.2.2.2.2.1) rfl
    have gO := HI.out.2.2.2.2.2.2.2.2.2.2.2.2.2.2.2.2.2
    clear HI hall
    have HO := Lib.hid gO
    clear gO
    go_wp2
    go_ret2
    exact ⟨rfl, HO.out⟩
structure RngRefUsedAtX where
  b0 : Bool
  b1 : Bool
  b2 : Bool
  b3 : Bool
  b4 : Bool
  b5 : Bool
  b6 : Bool
  b7 : Bool
  b8 : Bool
  b9 : Bool
  b10 : Bool
  b11 : Bool
  s28 : Value
  s29 : Value
  s30 : Value
  s31 : Value
  s32 : Value
  s33 : Value
  s34 : Value
  s35 : Value
  s36 : Value
  s37 : Value
  s9 : Value

set_option maxHeartbeats 4000000 in
set_option maxRecDepth 100000 in
theorem refUsedAt_in (v : Value) (l : List UInt8) (w : World) (hv : IsArg w v l) (B N : Nat) (hok : RingOk l.length B N) (k : Nat) (hk : k < 65536) (p x0 x1 : Nat) (hp : B + secN N + 4 + 8 * (k % N) = p) (h0 : numAt l p 4 = x0) (h1 : numAt l (p + 4) 4 = x1) :
    Calls Try.prog 25 #[.agg #[v], .int .i64 (B : Nat), .int .i64 (N : Nat), .int .u16 (k : Nat)] w fun e w' => e = .returned (.tuple #[.agg #[.int .u32 (x0 : Nat), .int .u32 (x1 : Nat)], .int .i64 0]) ∧ Below w.heap.size w w' := by
  have hN := hok.right.le
  have hsz := sizeN_le N
  have hfit := hok.fits
  have hL := hok.few
  have HL := Lib.hid hL
  have HNN := Lib.hid hN
  have HMX := Lib.hid (show l.length ≤ maxLen by unfold maxLen; omega)
  have HC := Lib.hid hok.ok
  have HV := Lib.hid hv
  obtain ⟨va, vc, rfl, _⟩ := hv.shape
  have HB := Lib.hid (((Below.refl w.heap.size w).alloc (Nat.le_refl _) (.cells #[.slice va l.length vc] 28)).alloc (by simp) (.cells #[.int .u32 0, .int .u32 0] 25))
  have HM := Lib.hid (row_keep (heap_alloc_new w (.cells #[.slice va l.length vc] 28)) ((Below.refl _ _).alloc (Nat.le_refl _) (.cells #[.int .u32 0, .int .u32 0] 25)))
  have HR := Lib.hid (show ((w.alloc (.cells #[.slice va l.length vc] 28)).alloc (.cells #[.int .u32 0, .int .u32 0] 25)).heap[w.heap.size + 1]? = some (.cells #[.int .u32 0, .int .u32 0] 25) by simpa using heap_alloc_new (w.alloc (.cells #[.slice va l.length vc] 28)) (.cells #[.int .u32 0, .int .u32 0] 25))
  obtain ⟨f1, hf1⟩ : ∃ q, q = secN N := ⟨_, rfl⟩
  obtain ⟨c1, hc1⟩ : ∃ q, q = B + f1 := ⟨_, rfl⟩
  obtain ⟨c2, hc2⟩ : ∃ q, q = c1 + 4 := ⟨_, rfl⟩
  have e2 : (B : Int) + (f1 : Nat) = (c1 : Nat) := by omega
  have e3 : (c1 : Int) + 4 = (c2 : Nat) := by omega
  have q1 : f1 ≤ 1000 := by omega
  have q2 : c1 ≤ 9000 := by omega
  have hwrc1 : IntKind.i64.wrap ((c1 : Nat) : Int) = (c1 : Nat) := IntWalk.i64_in _ (by omega)
  have hwrc2 : IntKind.i64.wrap ((c2 : Nat) : Int) = (c2 : Nat) := IntWalk.i64_in _ (by omega)
  have HF := Lib.hid (show ∀ W, Calls Try.prog 46 #[.int .i64 (N : Nat)] W fun e w' => e = .returned (.int .i64 (f1 : Nat)) ∧ w' = W from fun W => refSecond_any N f1 hf1.symm hN.2 W)
  obtain ⟨j, hj⟩ : ∃ j, k % N = j := ⟨_, rfl⟩
  have hjn : j < N := by rw [← hj]; exact Nat.mod_lt _ (by omega)
  rw [hj] at hp
  obtain ⟨q, hq⟩ : ∃ q, q = 8 * j := ⟨_, rfl⟩
  have htm : ((k : Nat) : Int).tmod ((N : Nat) : Int) = (j : Nat) := by rw [Int.tmod_eq_emod_of_nonneg (by omega)]; omega
  have hz : ¬ (N = 0) := by omega
  have hwj : IntKind.i64.wrap ((j : Nat) : Int) = (j : Nat) := IntWalk.i64_in _ (by omega)
  have hwk : IntKind.i64.wrap ((k : Nat) : Int) = (k : Nat) := IntWalk.i64_in _ (by omega)
  have hem : (k : Int) % (N : Nat) = (j : Nat) := by omega
  have e6 : (8 : Int) * (j : Nat) = (q : Nat) := by omega
  have e7 : (c2 : Int) + (q : Nat) = (p : Nat) := by omega
  have q3 : j ≤ 16 := by omega
  have q4 : q ≤ 1000 := by omega
  have hwrq : IntKind.i64.wrap ((q : Nat) : Int) = (q : Nat) := IntWalk.i64_in _ (by omega)
  have hwrp : IntKind.i64.wrap ((p : Nat) : Int) = (p : Nat) := IntWalk.i64_in _ (by omega)
  obtain ⟨p1, hp1⟩ : ∃ q, q = p + 4 := ⟨_, rfl⟩
  rw [← hp1] at h1
  have e8 : (p : Int) + 4 = (p1 : Nat) := by omega
  have q5 : p ≤ 9000 := by omega
  have hwrp1 : IntKind.i64.wrap ((p1 : Nat) : Int) = (p1 : Nat) := IntWalk.i64_in _ (by omega)
  have hx0 : x0 < 4294967296 := by rw [← h0]; exact numAt_lt l p 4
  have hx1 : x1 < 4294967296 := by rw [← h1]; exact numAt_lt l p1 4
  have hyw0 : IntKind.u32.wrap ((x0 : Nat) : Int) = (x0 : Nat) := IntWalk.u32_in _ (by omega)
  have hyw1 : IntKind.u32.wrap ((x1 : Nat) : Int) = (x1 : Nat) := IntWalk.u32_in _ (by omega)
  have HG0 := Lib.hid (show ∀ W, Below w.heap.size w W → Calls Try.prog 42 #[.agg #[.slice va l.length vc], .int .i64 (p : Nat), .int .i64 4] W fun e w' => e = .returned (.int .u64 (x0 : Nat)) ∧ Below W.heap.size W w' from fun W h => refGet_at _ l p 4 x0 hL (by omega) (by decide) (by decide) h0 W (hv.below h))
  have HG1 := Lib.hid (show ∀ W, Below w.heap.size w W → Calls Try.prog 42 #[.agg #[.slice va l.length vc], .int .i64 (p1 : Nat), .int .i64 4] W fun e w' => e = .returned (.int .u64 (x1 : Nat)) ∧ Below W.heap.size W w' from fun W h => refGet_at _ l p1 4 x1 hL (by omega) (by decide) (by decide) h1 W (hv.below h))
  clear hp hp1 hf1 hc1 hc2 h0 h1 hx0 hx1 hk hj hq hjn
  clear hN hsz hfit hL hok hv
  go_enter Try.func25, Try.ntmps25
  go_wp2_with fail
  refine (refRingCheck_any _ _ _ HMX.out _ _ true HC.out _).mono ?_
  rintro e w1 ⟨rfl, hb⟩
  replace HM := Lib.hid (row_keep HM.out hb)
  replace HR := Lib.hid (row_keep HR.out hb)
  replace HB := Lib.hid (HB.out.trans (hb.mono HB.out.size))
  clear hb
  go_wp2_with fail
  go_quiet ((go_at_call 46; refine Calls.quiet_of_same (HF.out _)))
  clear htm hz hwj hwk hem e2 e3 e6 e7
  obtain ⟨w2, hw2⟩ : ∃ u, u = w1.drewN nq := ⟨_, rfl⟩
  have hbd := below_drewN (Below.refl w1.heap.size w1) nq
  rw [← hw2] at hbd ⊢
  clear hw2
  replace HM := Lib.hid (row_keep HM.out hbd)
  replace HR := Lib.hid (row_keep HR.out hbd)
  replace HB := Lib.hid (HB.out.trans (hbd.mono HB.out.size))
  clear hbd
  go_wp2_with fail
  refine wp_region_rec (X := RngRefUsedAtX) (by kernel_rfl) (by kernel_rfl) (fun x => #[x.b0, x.b1, x.b2, x.b3, x.b4, x.b5, x.b6, x.b7, x.b8, x.b9, x.b10, x.b11]) (fun x => { tmps := #[Value.agg #[Value.slice va l.length vc], Value.int IntKind.i64 ↑B, Value.int IntKind.i64 ↑N, Value.int IntKind.u16 ↑k, Value.pointer (some ⟨w.heap.size, 0, none⟩), undef, undef, undef, Value.pointer (some ⟨w.heap.size + 1, 0, none⟩), x.s9, Value.int IntKind.i64 ↑p, Value.agg #[Value.slice va l.length vc], Value.int IntKind.i64 ↑B, Value.int IntKind.i64 ↑N, Value.bool true, Value.bool false, undef, Value.int IntKind.i64 ↑B, Value.int IntKind.i64 ↑N, Value.int IntKind.i64 ↑f1, Value.int IntKind.i64 ↑c1, Value.int IntKind.i64 ↑c2, Value.int IntKind.u16 ↑k, Value.int IntKind.i64 ↑k, Value.int IntKind.i64 ↑N, Value.int IntKind.i64 ↑j, Value.int IntKind.i64 ↑q, Value.int IntKind.i64 ↑p, x.s28, x.s29, x.s30, x.s31, x.s32, x.s33, x.s34, x.s35, x.s36, x.s37], defers := [] }) (fun x W => (x.b0 = true → x.s28 = .agg #[.slice va l.length vc]) ∧ (x.b1 = true → x.s29 = .int .i64 (p : Nat)) ∧ (x.b2 = true → x.s30 = .int .u64 (x0 : Nat)) ∧ (x.b3 = true → x.s31 = .int .u32 (x0 : Nat)) ∧ (x.b4 = true → x.s32 = .agg #[.slice va l.length vc]) ∧ (x.b5 = true → x.s33 = .int .i64 (p : Nat)) ∧ (x.b6 = true → x.s34 = .int .i64 (p1 : Nat)) ∧ (x.b7 = true → x.s35 = .int .u64 (x1 : Nat)) ∧ (x.b8 = true → x.s36 = .int .u32 (x1 : Nat)) ∧ (x.b9 = true → x.s37 = .agg #[.int .u32 (x0 : Nat), .int .u32 (x1 : Nat)]) ∧ (x.b11 = true → x.s9 = .int .i64 0) ∧ (W.heap[w.heap.size]? = some (.cells #[.slice va l.length vc] 28 (0, 0))) ∧ (x.b10 = false → W.heap[w.heap.size + 1]? = some (.cells #[.int .u32 0, .int .u32 0] 25)) ∧ (x.b10 = true → W.heap[w.heap.size + 1]? = some (.cells #[.int .u32 (x0 : Nat), .int .u32 (x1 : Nat)] 25)) ∧ (Below w.heap.size w W)) ⟨false, false, false, false, false, false, false, false, false, false, false, false, undef, undef, undef, undef, undef, undef, undef, undef, undef, undef, Value.int IntKind.i64 0⟩ rfl rfl ⟨(fun h => by cases h), (fun h => by cases h), (fun h => by cases h), (fun h => by cases h), (fun h => by cases h), (fun h => by cases h), (fun h => by cases h), (fun h => by cases h), (fun h => by cases h), (fun h => by cases h), (fun h => by cases h), HM.out, (fun _ => HR.out), (fun h => by cases h), HB.out.drew⟩ (fun _ => rfl) ?hstep ?hdone
  case hstep =>
    rintro ⟨b0, b1, b2, b3, b4, b5, b6, b7, b8, b9, b10, b11, s28, s29, s30, s31, s32, s33, s34, s35, s36, s37, s9⟩ W hI i hi
    dsimp only at hI hi ⊢
    have HI := Lib.hid hI
    clear hI
    rw [Region.ready, List.mem_filter, List.mem_range] at hi
    obtain ⟨hlt, hp⟩ := hi
    have hi7 : i = 0 ∨ i = 1 ∨ i = 2 ∨ i = 3 ∨ i = 4 ∨ i = 5 ∨ i = 6 ∨ i = 7 ∨ i = 8 ∨ i = 9 ∨ i = 10 ∨ i = 11 := by simp at hlt; omega
    clear hlt
    rcases hi7 with rfl | rfl | rfl | rfl | rfl | rfl | rfl | rfl | rfl | rfl | rfl | rfl
    all_goals simp [Region.binds] at hp
    · have hn0 : b0 = false := by revert hp; cases b0 <;> simp
      clear hp
      subst hn0
      refine inv_op (o := ⟨some 28, _, _, _, _, _⟩) rfl (fun K' hK' => ?_)
      have gM := HI.out.2.2.2.2.2.2.2.2.2.2.2.1
      obtain ⟨hc1, hc2⟩ := one_cell gM
      go_simp
      obtain ⟨h0, h1, h2, h3, h4, h5, h6, h7, h8, h9, h11, gM, gR, gB, gO⟩ := HI.out
      exact hK'.out _ _ ⟨⟨true, b1, b2, b3, b4, b5, b6, b7, b8, b9, b10, b11, _, s29, s30, s31, s32, s33, s34, s35, s36, s37, s9⟩, rfl, rfl, (fun _ => rfl), h1, h2, h3, h4, h5, h6, h7, h8, h9, h11, gM, gR, gB, gO⟩
    · have hn1 : b1 = false := by revert hp; cases b1 <;> simp
      clear hp
      subst hn1
      refine inv_op (o := ⟨some 29, _, _, _, _, _⟩) rfl (fun K' hK' => ?_)
      go_simp
      obtain ⟨h0, h1, h2, h3, h4, h5, h6, h7, h8, h9, h11, gM, gR, gB, gO⟩ := HI.out
      exact hK'.out _ _ ⟨⟨b0, true, b2, b3, b4, b5, b6, b7, b8, b9, b10, b11, s28, _, s30, s31, s32, s33, s34, s35, s36, s37, s9⟩, rfl, rfl, h0, (fun _ => rfl), h2, h3, h4, h5, h6, h7, h8, h9, h11, gM, gR, gB, gO⟩
    · have hn2 : b2 = false := by revert hp; cases b2 <;> simp
      have e0 : b0 = true := by revert hp; cases b0 <;> simp
      have e1 : b1 = true := by revert hp; cases b1 <;> simp
      clear hp
      obtain rfl := (HI.out.1) e0
      obtain rfl := (HI.out.2.1) e1
      subst hn2
      refine inv_op (o := ⟨some 30, _, _, _, _, _⟩) rfl (fun K' hK' => ?_)
      have gO := HI.out.2.2.2.2.2.2.2.2.2.2.2.2.2.2
      go_simp
      refine (HG0.out W gO).mono ?_
      rintro e w3 ⟨rfl, bn⟩
      obtain ⟨h0, h1, h2, h3, h4, h5, h6, h7, h8, h9, h11, gM, gR, gB, gO⟩ := HI.out
      exact hK'.out _ _ ⟨⟨b0, b1, true, b3, b4, b5, b6, b7, b8, b9, b10, b11, _, _, _, s31, s32, s33, s34, s35, s36, s37, s9⟩, rfl, rfl, h0, h1, (fun _ => rfl), h3, h4, h5, h6, h7, h8, h9, h11, (row_keep gM bn), (fun e => row_keep (gR e) bn), (fun e => row_keep (gB e) bn), (gO.trans (bn.mono gO.size))⟩
    · have hn3 : b3 = false := by revert hp; cases b3 <;> simp
      have e2 : b2 = true := by revert hp; cases b2 <;> simp
      clear hp
      obtain rfl := (HI.out.2.2.1) e2
      subst hn3
      refine inv_op (o := ⟨some 31, _, _, _, _, _⟩) rfl (fun K' hK' => ?_)
      go_simp
      obtain ⟨h0, h1, h2, h3, h4, h5, h6, h7, h8, h9, h11, gM, gR, gB, gO⟩ := HI.out
      exact hK'.out _ _ ⟨⟨b0, b1, b2, true, b4, b5, b6, b7, b8, b9, b10, b11, s28, s29, _, _, s32, s33, s34, s35, s36, s37, s9⟩, rfl, rfl, h0, h1, h2, (fun _ => rfl), h4, h5, h6, h7, h8, h9, h11, gM, gR, gB, gO⟩
    · have hn4 : b4 = false := by revert hp; cases b4 <;> simp
      clear hp
      subst hn4
      refine inv_op (o := ⟨some 32, _, _, _, _, _⟩) rfl (fun K' hK' => ?_)
      have gM := HI.out.2.2.2.2.2.2.2.2.2.2.2.1
      obtain ⟨hc1, hc2⟩ := one_cell gM
      go_simp
      obtain ⟨h0, h1, h2, h3, h4, h5, h6, h7, h8, h9, h11, gM, gR, gB, gO⟩ := HI.out
      exact hK'.out _ _ ⟨⟨b0, b1, b2, b3, true, b5, b6, b7, b8, b9, b10, b11, s28, s29, s30, s31, _, s33, s34, s35, s36, s37, s9⟩, rfl, rfl, h0, h1, h2, h3, (fun _ => rfl), h5, h6, h7, h8, h9, h11, gM, gR, gB, gO⟩
    · have hn5 : b5 = false := by revert hp; cases b5 <;> simp
      clear hp
      subst hn5
      refine inv_op (o := ⟨some 33, _, _, _, _, _⟩) rfl (fun K' hK' => ?_)
      go_simp
      obtain ⟨h0, h1, h2, h3, h4, h5, h6, h7, h8, h9, h11, gM, gR, gB, gO⟩ := HI.out
      exact hK'.out _ _ ⟨⟨b0, b1, b2, b3, b4, true, b6, b7, b8, b9, b10, b11, s28, s29, s30, s31, s32, _, s34, s35, s36, s37, s9⟩, rfl, rfl, h0, h1, h2, h3, h4, (fun _ => rfl), h6, h7, h8, h9, h11, gM, gR, gB, gO⟩
    · have hn6 : b6 = false := by revert hp; cases b6 <;> simp
      have e5 : b5 = true := by revert hp; cases b5 <;> simp
      clear hp
      obtain rfl := (HI.out.2.2.2.2.2.1) e5
      subst hn6
      refine inv_op (o := ⟨some 34, _, _, _, _, _⟩) rfl (fun K' hK' => ?_)
      go_simp
      obtain ⟨h0, h1, h2, h3, h4, h5, h6, h7, h8, h9, h11, gM, gR, gB, gO⟩ := HI.out
      exact hK'.out _ _ ⟨⟨b0, b1, b2, b3, b4, b5, true, b7, b8, b9, b10, b11, s28, s29, s30, s31, s32, _, _, s35, s36, s37, s9⟩, rfl, rfl, h0, h1, h2, h3, h4, h5, (fun _ => rfl), h7, h8, h9, h11, gM, gR, gB, gO⟩
    · have hn7 : b7 = false := by revert hp; cases b7 <;> simp
      have e4 : b4 = true := by revert hp; cases b4 <;> simp
      have e6 : b6 = true := by revert hp; cases b6 <;> simp
      clear hp
      obtain rfl := (HI.out.2.2.2.2.1) e4
      obtain rfl := (HI.out.2.2.2.2.2.2.1) e6
      subst hn7
      refine inv_op (o := ⟨some 35, _, _, _, _, _⟩) rfl (fun K' hK' => ?_)
      have gO := HI.out.2.2.2.2.2.2.2.2.2.2.2.2.2.2
      go_simp
      refine (HG1.out W gO).mono ?_
      rintro e w3 ⟨rfl, bn⟩
      obtain ⟨h0, h1, h2, h3, h4, h5, h6, h7, h8, h9, h11, gM, gR, gB, gO⟩ := HI.out
      exact hK'.out _ _ ⟨⟨b0, b1, b2, b3, b4, b5, b6, true, b8, b9, b10, b11, s28, s29, s30, s31, _, s33, _, _, s36, s37, s9⟩, rfl, rfl, h0, h1, h2, h3, h4, h5, h6, (fun _ => rfl), h8, h9, h11, (row_keep gM bn), (fun e => row_keep (gR e) bn), (fun e => row_keep (gB e) bn), (gO.trans (bn.mono gO.size))⟩
    · have hn8 : b8 = false := by revert hp; cases b8 <;> simp
      have e7 : b7 = true := by revert hp; cases b7 <;> simp
      clear hp
      obtain rfl := (HI.out.2.2.2.2.2.2.2.1) e7
      subst hn8
      refine inv_op (o := ⟨some 36, _, _, _, _, _⟩) rfl (fun K' hK' => ?_)
      go_simp
      obtain ⟨h0, h1, h2, h3, h4, h5, h6, h7, h8, h9, h11, gM, gR, gB, gO⟩ := HI.out
      exact hK'.out _ _ ⟨⟨b0, b1, b2, b3, b4, b5, b6, b7, true, b9, b10, b11, s28, s29, s30, s31, s32, s33, s34, _, _, s37, s9⟩, rfl, rfl, h0, h1, h2, h3, h4, h5, h6, h7, (fun _ => rfl), h9, h11, gM, gR, gB, gO⟩
    · have hn9 : b9 = false := by revert hp; cases b9 <;> simp
      have e3 : b3 = true := by revert hp; cases b3 <;> simp
      have e8 : b8 = true := by revert hp; cases b8 <;> simp
      clear hp
      obtain rfl := (HI.out.2.2.2.1) e3
      obtain rfl := (HI.out.2.2.2.2.2.2.2.2.1) e8
      subst hn9
      refine inv_op (o := ⟨some 37, _, _, _, _, _⟩) rfl (fun K' hK' => ?_)
      go_simp
      obtain ⟨h0, h1, h2, h3, h4, h5, h6, h7, h8, h9, h11, gM, gR, gB, gO⟩ := HI.out
      exact hK'.out _ _ ⟨⟨b0, b1, b2, b3, b4, b5, b6, b7, b8, true, b10, b11, s28, s29, s30, _, s32, s33, s34, s35, _, _, s9⟩, rfl, rfl, h0, h1, h2, h3, h4, h5, h6, h7, h8, (fun _ => rfl), h11, gM, gR, gB, gO⟩
    · have hn10 : b10 = false := by revert hp; cases b10 <;> simp
      have e9 : b9 = true := by revert hp; cases b9 <;> simp
      clear hp
      obtain rfl := (HI.out.2.2.2.2.2.2.2.2.2.1) e9
      subst hn10
      refine inv_op (o := ⟨none, _, _, _, _, _⟩) rfl (fun K' hK' => ?_)
      have gR := HI.out.2.2.2.2.2.2.2.2.2.2.2.2.1
      have hrow := gR rfl
      obtain ⟨u0, t0⟩ := at_cell hrow 0 _ rfl
      obtain ⟨u1, t1⟩ := at_cell hrow 1 _ rfl
      go_simp
      obtain ⟨h0, h1, h2, h3, h4, h5, h6, h7, h8, h9, h11, gM, gR, gB, gO⟩ := HI.out
      exact hK'.out _ _ ⟨⟨b0, b1, b2, b3, b4, b5, b6, b7, b8, b9, true, b11, s28, s29, s30, s31, s32, s33, s34, s35, s36, _, s9⟩, rfl, rfl, h0, h1, h2, h3, h4, h5, h6, h7, h8, h9, h11, (put2_far gM (by simp) _ _), (fun e => by cases e), (fun _ => put2_row hrow _ _), ((gO.setCell (by simp) _).setCell (by simp) _)⟩
    · have hn11 : b11 = false := by revert hp; cases b11 <;> simp
      clear hp
      subst hn11
      refine inv_op (o := ⟨some 9, _, _, _, _, _⟩) rfl (fun K' hK' => ?_)
      go_simp
      obtain ⟨h0, h1, h2, h3, h4, h5, h6, h7, h8, h9, h11, gM, gR, gB, gO⟩ := HI.out
      exact hK'.out _ _ ⟨⟨b0, b1, b2, b3, b4, b5, b6, b7, b8, b9, b10, true, s28, s29, s30, s31, s32, s33, s34, s35, s36, s37, _⟩, rfl, rfl, h0, h1, h2, h3, h4, h5, h6, h7, h8, h9, (fun _ => rfl), gM, gR, gB, gO⟩
  case hdone =>
    rintro ⟨b0, b1, b2, b3, b4, b5, b6, b7, b8, b9, b10, b11, s28, s29, s30, s31, s32, s33, s34, s35, s36, s37, s9⟩ W hI hall
    dsimp only at hI hall ⊢
    have HI := Lib.hid hI
    clear hI
    obtain rfl : b0 = true := hall 0 (by decide)
    obtain rfl : b1 = true := hall 1 (by decide)
    obtain rfl : b2 = true := hall 2 (by decide)
    obtain rfl : b3 = true := hall 3 (by decide)
    obtain rfl : b4 = true := hall 4 (by decide)
    obtain rfl : b5 = true := hall 5 (by decide)
    obtain rfl : b6 = true := hall 6 (by decide)
    obtain rfl : b7 = true := hall 7 (by decide)
    obtain rfl : b8 = true := hall 8 (by decide)
    obtain rfl : b9 = true := hall 9 (by decide)
    obtain rfl : b10 = true := hall 10 (by decide)
    obtain rfl : b11 = true := hall 11 (by decide)
    obtain rfl := (HI.out.2.2.2.2.2.2.2.2.2.2.1) rfl
    have gB := HI.out.2.2.2.2.2.2.2.2.2.2.2.2.2.1
    have gO := HI.out.2.2.2.2.2.2.2.2.2.2.2.2.2.2
    clear HI hall
    obtain ⟨r0, g0⟩ := at_cell (gB rfl) 0 _ rfl
    obtain ⟨r1, g1⟩ := at_cell (gB rfl) 1 _ rfl
    have HO := Lib.hid gO
    clear gB gO
    go_wp2
    refine bodyPost_ret (v := .tuple #[.agg #[.int .u32 (x0 : Nat), .int .u32 (x1 : Nat)], .int .i64 0]) (by simp [results, Try.results25, go_sem, r0, r1]) rfl ⟨rfl, HO.out⟩
end Go.Proofs.Ytofeiheomnpggaa
