/- The law RingTurns returns true for every input. -/
import Derived.Test.YtofeiheomnpggaaRngHe
import Derived.Test.YtofeiheomnpggaaOpenR
namespace Go.Proofs.Ytofeiheomnpggaa
open Go.RowKit Go.Lib

theorem run_zeros500 (W : World) : (Instr.makeSlice 26 (.int .i64 500) (.int .i64 500)).run Try.prog W = .ok (.slice (some ⟨W.heap.size, 0, none⟩) 500 500) (W.alloc (.cells (madeCells #[.int .u8 0] 500) 5)) :=
  run_make_row' (P := Try.prog) 26 5 (.int .u8 0) 1 Try.underlying26 info8 rfl .i64 .i64 500 (by decide) (by decide) W
theorem turn_mod {N k : Nat} (hN : RightN N) : (k + N) % 65536 % N = k % N ∧ (k + 65536 - N) % 65536 % N = k % N := by
  rcases hN with rfl | rfl | rfl | rfl | rfl
  all_goals omega
structure TurnFacts (l G1 G2 : List UInt8) (N k : Nat) (h u0 u1 : Nat) : Prop where
  n0 : l.length = 500
  n1 : G1.length = 500
  n2 : G2.length = 500
  f : ∀ q : List UInt8, q.length = 500 → ringF q.length 4 (N : Nat) = 0
  avat : availAtX G2 4 (N : Nat) ((k + N) % 65536) = h
  ua0 : usedAtX G2 4 (N : Nat) ((k + 65536 - N) % 65536) 0 = u0
  ua1 : usedAtX G2 4 (N : Nat) ((k + 65536 - N) % 65536) 4 = u1
  av : availX G2 4 (N : Nat) = (k + 1) % 65536
theorem turn_plain (l : List UInt8) (hl : l.length = 500) (N k h u0 u1 : Nat) (hN : RightN N) (hh : h < 65536) (hu0 : u0 < 4294967296) (hu1 : u1 < 4294967296) (G1 G2 : List UInt8) (h1 : offerX l 4 (N : Nat) k (h : Nat) = G1) (h2 : returnX G1 4 (N : Nat) k u0 u1 = G2) : TurnFacts l G1 G2 N k h u0 u1 := by
  have hok : ∀ q : List UInt8, q.length = 500 → RingOk q.length 4 N := fun q hq => ⟨by omega, hN, by have := sizeN_le N; have := hN.le; omega⟩
  have n1 : G1.length = 500 := by rw [← h1, offerX_length, hl]
  have n2 : G2.length = 500 := by rw [← h2, returnX_length, n1]
  have e1 : offerD l 4 N k h = G1 := by
    rw [← h1]
    have e := offerX_ok (B := 4) (hok l hl) k (h : Nat)
    rw [show (((h : Nat) : Int) % 65536).toNat = h by omega] at e
    exact e.symm
  have e2 : returnD G1 4 N k u0 u1 = G2 := by rw [← h2]; exact (returnX_ok (B := 4) (hok G1 n1) k u0 u1).symm
  obtain ⟨m1, m2⟩ := turn_mod (k := k) hN
  have lie := (hok G1 n1).lie
  have lt := mod_in (k := (k + N) % 65536) lie.1
  refine { n0 := hl, n1 := n1, n2 := n2, f := fun q hq => ringF_ok (B := 4) (hok q hq), avat := ?_, ua0 := ?_, ua1 := ?_, av := ?_ }
  · refine (availAtX_ok (B := 4) (hok G2 n2) _).trans ?_
    rw [← e2, returnD_other _ _ _ (hok G1 n1) (.inl (by omega)), ← e1, offerD_entry k _ h m1 hh (hok l hl)]
  · refine (usedAtX_ok (B := 4) (hok G2 n2) _ 0).trans ?_
    rw [← e2]
    exact (returnD_entry k _ u0 u1 m2 hu0 hu1 (hok G1 n1)).1
  · refine (usedAtX_ok (B := 4) (hok G2 n2) _ 4).trans ?_
    rw [← e2]
    exact (returnD_entry k _ u0 u1 m2 hu0 hu1 (hok G1 n1)).2
  · refine (availX_ok (B := 4) (hok G2 n2)).trans ?_
    rw [← e2, returnD_other _ _ _ (hok G1 n1) (.inl (by omega)), ← e1, offerD_index k h (hok l hl)]

set_option maxHeartbeats 4000000 in
set_option maxRecDepth 100000 in
theorem ringTurns_out (w : World) (z : Int) (k : Nat) (h : Int) (u0 u1 : Nat) (hc : rightB z = false ∨ (sizeZ z ≠ 0 ∧ h < 0) ∨ (sizeZ z ≠ 0 ∧ 0 ≤ h ∧ 65535 < h)) :
    Calls Try.prog 3 #[.int .i64 z, .int .u16 (k : Nat), .int .i64 h, .agg #[.int .u32 (u0 : Nat), .int .u32 (u1 : Nat)]] w fun e w' => e = .returned (.bool true) ∧ Below w.heap.size w w' := by
  rcases hc with hc | ⟨hs, h1⟩ | ⟨hs, h0, h1⟩
  · have hs := sizeZ_not hc
    have hd : (sizeZ z == 0) = true := by rw [beq_iff_eq]; exact hs
    clear hc hs
    have BW := Lib.hid ((((Below.refl w.heap.size w).alloc (Nat.le_refl _) (.cells #[.int .u32 (u0 : Nat), .int .u32 (u1 : Nat)] 25))).alloc (by simp) (.cells (madeCells #[.int .u8 0] 500) 5))
    have Ru := Lib.hid (row_keep (heap_alloc_new w (.cells #[.int .u32 (u0 : Nat), .int .u32 (u1 : Nat)] 25)) ((Below.refl _ _).alloc (Nat.le_refl _) (.cells (madeCells #[.int .u8 0] 500) 5)))
    have hzz := zeros_arg (w.alloc (.cells #[.int .u32 (u0 : Nat), .int .u32 (u1 : Nat)] 25)) 500 (by decide)
    have hs1 : (w.alloc (.cells #[.int .u32 (u0 : Nat), .int .u32 (u1 : Nat)] 25)).heap.size = w.heap.size + 1 := by simp
    rw [hs1] at hzz
    clear hs1
    have hmk := run_zeros500
    clear hzz
    have hbx : Below ((w.alloc (.cells #[.int .u32 (u0 : Nat), .int .u32 (u1 : Nat)] 25)).alloc (.cells (madeCells #[.int .u8 0] 500) 5)).heap.size ((w.alloc (.cells #[.int .u32 (u0 : Nat), .int .u32 (u1 : Nat)] 25)).alloc (.cells (madeCells #[.int .u8 0] 500) 5)) (((w.alloc (.cells #[.int .u32 (u0 : Nat), .int .u32 (u1 : Nat)] 25)).alloc (.cells (madeCells #[.int .u8 0] 500) 5)).alloc (.cells #[.slice (some ⟨w.heap.size + 1, 0, none⟩) 500 500] 28)) := (Below.refl _ _).alloc (Nat.le_refl _) _
    replace BW := Lib.hid (BW.out.trans (hbx.mono BW.out.size))
    replace Ru := Lib.hid (row_keep Ru.out hbx)
    have Rm := Lib.hid (heap_alloc_new ((w.alloc (.cells #[.int .u32 (u0 : Nat), .int .u32 (u1 : Nat)] 25)).alloc (.cells (madeCells #[.int .u8 0] 500) 5)) (.cells #[.slice (some ⟨w.heap.size + 1, 0, none⟩) 500 500] 28))
    clear hbx
    have hs2 : ((w.alloc (.cells #[.int .u32 (u0 : Nat), .int .u32 (u1 : Nat)] 25)).alloc (.cells (madeCells #[.int .u8 0] 500) 5)).heap.size = w.heap.size + 1 + 1 := by simp
    have hr1 := Rm.out
    rw [hs2] at hr1
    replace Rm := Lib.hid hr1
    clear hs2 hr1
    go_enter Try.func3, Try.ntmps3
    go_wp2_with fail
    refine (size_any z _ rfl _).mono ?_
    rintro e w1 ⟨rfl, hb⟩
    replace BW := Lib.hid (BW.out.trans (hb.mono BW.out.size))
    replace Ru := Lib.hid (row_keep Ru.out hb)
    replace Rm := Lib.hid (row_keep Rm.out hb)
    clear hb
    clear hmk
    go_wp2_with fail
    refine (heads_any _).mono ?_
    rintro e w2 ⟨rfl, hb⟩
    replace BW := Lib.hid (BW.out.trans (hb.mono BW.out.size))
    replace Ru := Lib.hid (row_keep Ru.out hb)
    replace Rm := Lib.hid (row_keep Rm.out hb)
    clear hb
    go_wp2
    go_ret
    exact ⟨rfl, BW.out⟩
  · have hd : (sizeZ z == 0) = false := by rw [beq_eq_false_iff_ne]; exact hs
    have hd1 : decide (h < 0) = true := decide_eq_true h1
    clear hs h1
    have BW := Lib.hid ((((Below.refl w.heap.size w).alloc (Nat.le_refl _) (.cells #[.int .u32 (u0 : Nat), .int .u32 (u1 : Nat)] 25))).alloc (by simp) (.cells (madeCells #[.int .u8 0] 500) 5))
    have Ru := Lib.hid (row_keep (heap_alloc_new w (.cells #[.int .u32 (u0 : Nat), .int .u32 (u1 : Nat)] 25)) ((Below.refl _ _).alloc (Nat.le_refl _) (.cells (madeCells #[.int .u8 0] 500) 5)))
    have hzz := zeros_arg (w.alloc (.cells #[.int .u32 (u0 : Nat), .int .u32 (u1 : Nat)] 25)) 500 (by decide)
    have hs1 : (w.alloc (.cells #[.int .u32 (u0 : Nat), .int .u32 (u1 : Nat)] 25)).heap.size = w.heap.size + 1 := by simp
    rw [hs1] at hzz
    clear hs1
    have hmk := run_zeros500
    clear hzz
    have hbx : Below ((w.alloc (.cells #[.int .u32 (u0 : Nat), .int .u32 (u1 : Nat)] 25)).alloc (.cells (madeCells #[.int .u8 0] 500) 5)).heap.size ((w.alloc (.cells #[.int .u32 (u0 : Nat), .int .u32 (u1 : Nat)] 25)).alloc (.cells (madeCells #[.int .u8 0] 500) 5)) (((w.alloc (.cells #[.int .u32 (u0 : Nat), .int .u32 (u1 : Nat)] 25)).alloc (.cells (madeCells #[.int .u8 0] 500) 5)).alloc (.cells #[.slice (some ⟨w.heap.size + 1, 0, none⟩) 500 500] 28)) := (Below.refl _ _).alloc (Nat.le_refl _) _
    replace BW := Lib.hid (BW.out.trans (hbx.mono BW.out.size))
    replace Ru := Lib.hid (row_keep Ru.out hbx)
    have Rm := Lib.hid (heap_alloc_new ((w.alloc (.cells #[.int .u32 (u0 : Nat), .int .u32 (u1 : Nat)] 25)).alloc (.cells (madeCells #[.int .u8 0] 500) 5)) (.cells #[.slice (some ⟨w.heap.size + 1, 0, none⟩) 500 500] 28))
    clear hbx
    have hs2 : ((w.alloc (.cells #[.int .u32 (u0 : Nat), .int .u32 (u1 : Nat)] 25)).alloc (.cells (madeCells #[.int .u8 0] 500) 5)).heap.size = w.heap.size + 1 + 1 := by simp
    have hr1 := Rm.out
    rw [hs2] at hr1
    replace Rm := Lib.hid hr1
    clear hs2 hr1
    go_enter Try.func3, Try.ntmps3
    go_wp2_with fail
    refine (size_any z _ rfl _).mono ?_
    rintro e w1 ⟨rfl, hb⟩
    replace BW := Lib.hid (BW.out.trans (hb.mono BW.out.size))
    replace Ru := Lib.hid (row_keep Ru.out hb)
    replace Rm := Lib.hid (row_keep Rm.out hb)
    clear hb
    clear hmk
    go_wp2_with fail
    refine (heads_any _).mono ?_
    rintro e w2 ⟨rfl, hb⟩
    replace BW := Lib.hid (BW.out.trans (hb.mono BW.out.size))
    replace Ru := Lib.hid (row_keep Ru.out hb)
    replace Rm := Lib.hid (row_keep Rm.out hb)
    clear hb
    go_wp2
    go_ret
    exact ⟨rfl, BW.out⟩
  · have hd : (sizeZ z == 0) = false := by rw [beq_eq_false_iff_ne]; exact hs
    have hd1 : decide (h < 0) = false := decide_eq_false (by omega)
    have hd2 : decide (65535 < h) = true := decide_eq_true h1
    clear hs h0 h1
    have BW := Lib.hid ((((Below.refl w.heap.size w).alloc (Nat.le_refl _) (.cells #[.int .u32 (u0 : Nat), .int .u32 (u1 : Nat)] 25))).alloc (by simp) (.cells (madeCells #[.int .u8 0] 500) 5))
    have Ru := Lib.hid (row_keep (heap_alloc_new w (.cells #[.int .u32 (u0 : Nat), .int .u32 (u1 : Nat)] 25)) ((Below.refl _ _).alloc (Nat.le_refl _) (.cells (madeCells #[.int .u8 0] 500) 5)))
    have hzz := zeros_arg (w.alloc (.cells #[.int .u32 (u0 : Nat), .int .u32 (u1 : Nat)] 25)) 500 (by decide)
    have hs1 : (w.alloc (.cells #[.int .u32 (u0 : Nat), .int .u32 (u1 : Nat)] 25)).heap.size = w.heap.size + 1 := by simp
    rw [hs1] at hzz
    clear hs1
    have hmk := run_zeros500
    clear hzz
    have hbx : Below ((w.alloc (.cells #[.int .u32 (u0 : Nat), .int .u32 (u1 : Nat)] 25)).alloc (.cells (madeCells #[.int .u8 0] 500) 5)).heap.size ((w.alloc (.cells #[.int .u32 (u0 : Nat), .int .u32 (u1 : Nat)] 25)).alloc (.cells (madeCells #[.int .u8 0] 500) 5)) (((w.alloc (.cells #[.int .u32 (u0 : Nat), .int .u32 (u1 : Nat)] 25)).alloc (.cells (madeCells #[.int .u8 0] 500) 5)).alloc (.cells #[.slice (some ⟨w.heap.size + 1, 0, none⟩) 500 500] 28)) := (Below.refl _ _).alloc (Nat.le_refl _) _
    replace BW := Lib.hid (BW.out.trans (hbx.mono BW.out.size))
    replace Ru := Lib.hid (row_keep Ru.out hbx)
    have Rm := Lib.hid (heap_alloc_new ((w.alloc (.cells #[.int .u32 (u0 : Nat), .int .u32 (u1 : Nat)] 25)).alloc (.cells (madeCells #[.int .u8 0] 500) 5)) (.cells #[.slice (some ⟨w.heap.size + 1, 0, none⟩) 500 500] 28))
    clear hbx
    have hs2 : ((w.alloc (.cells #[.int .u32 (u0 : Nat), .int .u32 (u1 : Nat)] 25)).alloc (.cells (madeCells #[.int .u8 0] 500) 5)).heap.size = w.heap.size + 1 + 1 := by simp
    have hr1 := Rm.out
    rw [hs2] at hr1
    replace Rm := Lib.hid hr1
    clear hs2 hr1
    go_enter Try.func3, Try.ntmps3
    go_wp2_with fail
    refine (size_any z _ rfl _).mono ?_
    rintro e w1 ⟨rfl, hb⟩
    replace BW := Lib.hid (BW.out.trans (hb.mono BW.out.size))
    replace Ru := Lib.hid (row_keep Ru.out hb)
    replace Rm := Lib.hid (row_keep Rm.out hb)
    clear hb
    clear hmk
    go_wp2_with fail
    refine (heads_any _).mono ?_
    rintro e w2 ⟨rfl, hb⟩
    replace BW := Lib.hid (BW.out.trans (hb.mono BW.out.size))
    replace Ru := Lib.hid (row_keep Ru.out hb)
    replace Rm := Lib.hid (row_keep Rm.out hb)
    clear hb
    go_wp2
    go_ret
    exact ⟨rfl, BW.out⟩

set_option maxHeartbeats 4000000 in
set_option maxRecDepth 100000 in
theorem ringTurns_in (w : World) (N k h u0 u1 : Nat) (hN : RightN N) (hk : k < 65536) (hh : h < 65536) (hu0 : u0 < 4294967296) (hu1 : u1 < 4294967296) :
    Calls Try.prog 3 #[.int .i64 (N : Nat), .int .u16 (k : Nat), .int .i64 (h : Nat), .agg #[.int .u32 (u0 : Nat), .int .u32 (u1 : Nat)]] w fun e w' => e = .returned (.bool true) ∧ Below w.heap.size w w' := by
  have BW := Lib.hid ((((Below.refl w.heap.size w).alloc (Nat.le_refl _) (.cells #[.int .u32 (u0 : Nat), .int .u32 (u1 : Nat)] 25))).alloc (by simp) (.cells (madeCells #[.int .u8 0] 500) 5))
  have Ru := Lib.hid (row_keep (heap_alloc_new w (.cells #[.int .u32 (u0 : Nat), .int .u32 (u1 : Nat)] 25)) ((Below.refl _ _).alloc (Nat.le_refl _) (.cells (madeCells #[.int .u8 0] 500) 5)))
  have hzz := zeros_arg (w.alloc (.cells #[.int .u32 (u0 : Nat), .int .u32 (u1 : Nat)] 25)) 500 (by decide)
  have hs1 : (w.alloc (.cells #[.int .u32 (u0 : Nat), .int .u32 (u1 : Nat)] 25)).heap.size = w.heap.size + 1 := by simp
  rw [hs1] at hzz
  clear hs1
  obtain ⟨l, hl⟩ : ∃ l : List UInt8, l = List.replicate 500 0 := ⟨_, rfl⟩
  rw [← hl] at hzz
  have AM := Lib.hid hzz
  have hl2 : l.length = 500 := by rw [hl]; simp
  obtain ⟨G1, h1⟩ : ∃ G, offerX l 4 (N : Nat) k (h : Nat) = G := ⟨_, rfl⟩
  obtain ⟨G2, h2⟩ : ∃ G, returnX G1 4 (N : Nat) k u0 u1 = G := ⟨_, rfl⟩
  have HF := Lib.hid (turn_plain l hl2 N k h u0 u1 hN hh hu0 hu1 G1 G2 h1 h2)
  have HG1 := Lib.hid h1
  have HG2 := Lib.hid h2
  obtain ⟨k1, hk1⟩ : ∃ q, q = (k + N) % 65536 := ⟨_, rfl⟩
  obtain ⟨k2, hk2⟩ : ∃ q, q = (k + 65536 - N) % 65536 := ⟨_, rfl⟩
  obtain ⟨k3, hk3⟩ : ∃ q, q = (k + 1) % 65536 := ⟨_, rfl⟩
  have hle := hN.le
  have hwN : IntKind.u16.wrap ((N : Nat) : Int) = (N : Nat) := IntWalk.u16_in _ (by omega)
  have hw1 : IntKind.u16.wrap (((k : Nat) : Int) + ((N : Nat) : Int)) = (k1 : Nat) := by simp [IntKind.wrap, IntKind.bits, IntKind.signed]; omega
  have hw2 : IntKind.u16.wrap (((k : Nat) : Int) - ((N : Nat) : Int)) = (k2 : Nat) := by simp [IntKind.wrap, IntKind.bits, IntKind.signed]; omega
  have hw3 : IntKind.u16.wrap (((k : Nat) : Int) + 1) = (k3 : Nat) := by simp [IntKind.wrap, IntKind.bits, IntKind.signed]; omega
  have HK1 := Lib.hid hk1
  have HK2 := Lib.hid hk2
  have HK3 := Lib.hid hk3
  have HKK := Lib.hid hk
  have HU0 := Lib.hid hu0
  have HU1 := Lib.hid hu1
  obtain ⟨sz, hsz⟩ : ∃ q, q = sizeN N := ⟨_, rfl⟩
  have hsn := sizeN_le N
  have HSZ := Lib.hid (show sizeZ (N : Nat) = (sz : Nat) by rw [sizeZ_of hN, hsz])
  have hd : (((sz : Nat) : Int) == 0) = false := by rw [beq_eq_false_iff_ne]; omega
  have hd0 : (sz == 0) = false := by rw [beq_eq_false_iff_ne]; omega
  have hd1 : decide (((h : Nat) : Int) < 0) = false := decide_eq_false (by omega)
  have hd2 : decide ((65535 : Int) < ((h : Nat) : Int)) = false := decide_eq_false (by omega)
  have hd3 : decide (65535 < h) = false := decide_eq_false (by omega)
  have hmk := run_zeros500
  clear hl hl2 h1 h2 hzz hk1 hk2 hk3 hk hu0 hu1 hh hN hle hsz hsn
  have hbx : Below ((w.alloc (.cells #[.int .u32 (u0 : Nat), .int .u32 (u1 : Nat)] 25)).alloc (.cells (madeCells #[.int .u8 0] 500) 5)).heap.size ((w.alloc (.cells #[.int .u32 (u0 : Nat), .int .u32 (u1 : Nat)] 25)).alloc (.cells (madeCells #[.int .u8 0] 500) 5)) (((w.alloc (.cells #[.int .u32 (u0 : Nat), .int .u32 (u1 : Nat)] 25)).alloc (.cells (madeCells #[.int .u8 0] 500) 5)).alloc (.cells #[.slice (some ⟨w.heap.size + 1, 0, none⟩) 500 500] 28)) := (Below.refl _ _).alloc (Nat.le_refl _) _
  replace BW := Lib.hid (BW.out.trans (hbx.mono BW.out.size))
  replace Ru := Lib.hid (row_keep Ru.out hbx)
  replace AM := Lib.hid (AM.out.below hbx)
  have Rm := Lib.hid (heap_alloc_new ((w.alloc (.cells #[.int .u32 (u0 : Nat), .int .u32 (u1 : Nat)] 25)).alloc (.cells (madeCells #[.int .u8 0] 500) 5)) (.cells #[.slice (some ⟨w.heap.size + 1, 0, none⟩) 500 500] 28))
  clear hbx
  have hs2 : ((w.alloc (.cells #[.int .u32 (u0 : Nat), .int .u32 (u1 : Nat)] 25)).alloc (.cells (madeCells #[.int .u8 0] 500) 5)).heap.size = w.heap.size + 1 + 1 := by simp
  have hr1 := Rm.out
  rw [hs2] at hr1
  replace Rm := Lib.hid hr1
  clear hs2 hr1
  go_enter Try.func3, Try.ntmps3
  go_wp2_with fail
  refine (size_any _ _ HSZ.out _).mono ?_
  rintro e w1 ⟨rfl, hb⟩
  replace BW := Lib.hid (BW.out.trans (hb.mono BW.out.size))
  replace Ru := Lib.hid (row_keep Ru.out hb)
  replace AM := Lib.hid (AM.out.below hb)
  replace Rm := Lib.hid (row_keep Rm.out hb)
  clear hb
  clear hmk
  obtain ⟨lRm0, zRm0⟩ := at_cell Rm.out 0 _ rfl
  clear zRm0
  go_wp2_with fail
  refine ((offer_any _ l 4 (N : Nat) k HKK.out (h : Nat) 0 G1 (HF.out.f _ HF.out.n0) HG1.out (by rw [HF.out.n0]; decide) _ AM.out).mono fun e w' h => h.arg AM.out).mono ?_
  rintro e w2 ⟨aa, ca, rfl, hd, hb⟩
  clear lRm0
  replace BW := Lib.hid (BW.out.trans (hb.mono BW.out.size))
  replace Ru := Lib.hid (row_keep Ru.out hb)
  replace AM := Lib.hid (AM.out.below hb)
  replace Rm := Lib.hid (row_keep Rm.out hb)
  have Aa := Lib.hid hd
  clear hd hb
  clear hd hd0 hd1 hd2 hd3
  have hbx : Below (w2).heap.size (w2) ((w2).alloc (.cells #[.slice aa l.length ca] 28)) := (Below.refl _ _).alloc (Nat.le_refl _) _
  replace BW := Lib.hid (BW.out.trans (hbx.mono BW.out.size))
  replace Ru := Lib.hid (row_keep Ru.out hbx)
  replace AM := Lib.hid (AM.out.below hbx)
  replace Rm := Lib.hid (row_keep Rm.out hbx)
  replace Aa := Lib.hid (Aa.out.below hbx)
  have Ra := Lib.hid (heap_alloc_new (w2) (.cells #[.slice aa l.length ca] 28))
  clear hbx
  obtain ⟨lRu0, zRu0⟩ := at_cell Ru.out 0 _ rfl
  clear zRu0
  obtain ⟨lRu1, zRu1⟩ := at_cell Ru.out 1 _ rfl
  clear zRu1
  go_wp2_with fail
  refine ((return_any _ G1 4 (N : Nat) k HKK.out u0 u1 HU0.out HU1.out 0 G2 (HF.out.f _ HF.out.n1) HG2.out (by rw [HF.out.n1]; decide) _ Aa.out).mono fun e w' h => h.arg Aa.out).mono ?_
  rintro e w3 ⟨ab, cb, rfl, hd, hb⟩
  clear lRu0 lRu1
  replace BW := Lib.hid (BW.out.trans (hb.mono BW.out.size))
  replace Ru := Lib.hid (row_keep Ru.out hb)
  replace AM := Lib.hid (AM.out.below hb)
  replace Rm := Lib.hid (row_keep Rm.out hb)
  replace Aa := Lib.hid (Aa.out.below hb)
  replace Ra := Lib.hid (row_keep Ra.out hb)
  have Ab := Lib.hid hd
  clear hd hb
  have hbx : Below (w3).heap.size (w3) ((w3).alloc (.cells #[.slice ab G1.length cb] 28)) := (Below.refl _ _).alloc (Nat.le_refl _) _
  replace BW := Lib.hid (BW.out.trans (hbx.mono BW.out.size))
  replace Ru := Lib.hid (row_keep Ru.out hbx)
  replace AM := Lib.hid (AM.out.below hbx)
  replace Rm := Lib.hid (row_keep Rm.out hbx)
  replace Aa := Lib.hid (Aa.out.below hbx)
  replace Ra := Lib.hid (row_keep Ra.out hbx)
  replace Ab := Lib.hid (Ab.out.below hbx)
  have Rb := Lib.hid (heap_alloc_new (w3) (.cells #[.slice ab G1.length cb] 28))
  clear hbx
  go_wp2_with fail
  refine (availAt_any _ G2 4 (N : Nat) k1 (by have := HK1.out; omega) 0 h (HF.out.f _ HF.out.n2) (by rw [HK1.out]; exact HF.out.avat) (by rw [HF.out.n2]; decide) _ Ab.out).mono ?_
  rintro e w4 ⟨rfl, hb⟩
  replace BW := Lib.hid (BW.out.trans (hb.mono BW.out.size))
  replace Ru := Lib.hid (row_keep Ru.out hb)
  replace AM := Lib.hid (AM.out.below hb)
  replace Rm := Lib.hid (row_keep Rm.out hb)
  replace Aa := Lib.hid (Aa.out.below hb)
  replace Ra := Lib.hid (row_keep Ra.out hb)
  replace Ab := Lib.hid (Ab.out.below hb)
  replace Rb := Lib.hid (row_keep Rb.out hb)
  clear hb
  obtain ⟨lRb0, zRb0⟩ := at_cell Rb.out 0 _ rfl
  clear zRb0
  go_wp2_with fail
  refine (usedAt_any _ G2 4 (N : Nat) k2 (by have := HK2.out; omega) 0 u0 u1 (HF.out.f _ HF.out.n2) (by rw [HK2.out]; exact HF.out.ua0) (by rw [HK2.out]; exact HF.out.ua1) (by rw [HF.out.n2]; decide) _ Ab.out).mono ?_
  rintro e w5 ⟨rfl, hb⟩
  clear lRb0
  replace BW := Lib.hid (BW.out.trans (hb.mono BW.out.size))
  replace Ru := Lib.hid (row_keep Ru.out hb)
  replace AM := Lib.hid (AM.out.below hb)
  replace Rm := Lib.hid (row_keep Rm.out hb)
  replace Aa := Lib.hid (Aa.out.below hb)
  replace Ra := Lib.hid (row_keep Ra.out hb)
  replace Ab := Lib.hid (Ab.out.below hb)
  replace Rb := Lib.hid (row_keep Rb.out hb)
  clear hb
  have hbx : Below (w5).heap.size (w5) ((w5).alloc (.cells #[.int .u32 (u0 : Nat), .int .u32 (u1 : Nat)] 25)) := (Below.refl _ _).alloc (Nat.le_refl _) _
  replace BW := Lib.hid (BW.out.trans (hbx.mono BW.out.size))
  replace Ru := Lib.hid (row_keep Ru.out hbx)
  replace AM := Lib.hid (AM.out.below hbx)
  replace Rm := Lib.hid (row_keep Rm.out hbx)
  replace Aa := Lib.hid (Aa.out.below hbx)
  replace Ra := Lib.hid (row_keep Ra.out hbx)
  replace Ab := Lib.hid (Ab.out.below hbx)
  replace Rb := Lib.hid (row_keep Rb.out hbx)
  have Rv := Lib.hid (heap_alloc_new (w5) (.cells #[.int .u32 (u0 : Nat), .int .u32 (u1 : Nat)] 25))
  clear hbx
  obtain ⟨lRb0, zRb0⟩ := at_cell Rb.out 0 _ rfl
  clear zRb0
  go_wp2_with fail
  refine (avail_any _ G2 4 (N : Nat) 0 k3 (HF.out.f _ HF.out.n2) (by rw [HK3.out]; exact HF.out.av) (by rw [HF.out.n2]; decide) _ Ab.out).mono ?_
  rintro e w6 ⟨rfl, hb⟩
  clear lRb0
  replace BW := Lib.hid (BW.out.trans (hb.mono BW.out.size))
  replace Ru := Lib.hid (row_keep Ru.out hb)
  replace AM := Lib.hid (AM.out.below hb)
  replace Rm := Lib.hid (row_keep Rm.out hb)
  replace Aa := Lib.hid (Aa.out.below hb)
  replace Ra := Lib.hid (row_keep Ra.out hb)
  replace Ab := Lib.hid (Ab.out.below hb)
  replace Rb := Lib.hid (row_keep Rb.out hb)
  replace Rv := Lib.hid (row_keep Rv.out hb)
  clear hb
  obtain ⟨lRu0, zRu0⟩ := at_cell Ru.out 0 _ rfl
  clear zRu0
  obtain ⟨lRu1, zRu1⟩ := at_cell Ru.out 1 _ rfl
  clear zRu1
  obtain ⟨lRv0, zRv0⟩ := at_cell Rv.out 0 _ rfl
  clear zRv0
  obtain ⟨lRv1, zRv1⟩ := at_cell Rv.out 1 _ rfl
  clear zRv1
  have hq2 := used_eql u0 u1 u0 u1 true (by simp)
  go_wp2_with fail
  refine (heads_any _).mono ?_
  rintro e w7 ⟨rfl, hb⟩
  clear lRu0 lRu1 lRv0 lRv1
  replace BW := Lib.hid (BW.out.trans (hb.mono BW.out.size))
  replace Ru := Lib.hid (row_keep Ru.out hb)
  replace AM := Lib.hid (AM.out.below hb)
  replace Rm := Lib.hid (row_keep Rm.out hb)
  replace Aa := Lib.hid (Aa.out.below hb)
  replace Ra := Lib.hid (row_keep Ra.out hb)
  replace Ab := Lib.hid (Ab.out.below hb)
  replace Rb := Lib.hid (row_keep Rb.out hb)
  replace Rv := Lib.hid (row_keep Rv.out hb)
  clear hb
  go_wp2
  go_ret
  exact ⟨rfl, BW.out⟩

theorem ringTurns_law (w : World) (z : Int) (_ : -9223372036854775808 ≤ z ∧ z ≤ 9223372036854775807) (k : Nat) (hk : k < 65536) (h : Int) (_ : -9223372036854775808 ≤ h ∧ h ≤ 9223372036854775807) (u0 : Nat) (hu0 : u0 < 4294967296) (u1 : Nat) (hu1 : u1 < 4294967296) :
    Calls Try.prog 3 #[.int .i64 z, .int .u16 (k : Nat), .int .i64 h, .agg #[.int .u32 (u0 : Nat), .int .u32 (u1 : Nat)]] w fun e w' => e = .returned (.bool true) ∧ Below w.heap.size w w' := by
  have hs : rightB z = true → sizeZ z ≠ 0 := fun h => by
    obtain ⟨N, rfl, hN⟩ := right_of h
    rw [sizeZ_of hN]
    have := sizeN_le N
    omega
  cases hr : rightB z with
  | false => exact ringTurns_out w z k h u0 u1 (.inl hr)
  | true =>
    by_cases h0 : h < 0
    · exact ringTurns_out w z k h u0 u1 (.inr (.inl ⟨hs hr, h0⟩))
    · by_cases h1 : 65535 < h
      · exact ringTurns_out w z k h u0 u1 (.inr (.inr ⟨hs hr, by omega, h1⟩))
      · obtain ⟨N, rfl, hN⟩ := right_of hr
        obtain ⟨h, rfl⟩ := Int.eq_ofNat_of_zero_le (show 0 ≤ h by omega)
        exact ringTurns_in w N k h u0 u1 hN hk (by omega) hu0 hu1
end Go.Proofs.Ytofeiheomnpggaa
