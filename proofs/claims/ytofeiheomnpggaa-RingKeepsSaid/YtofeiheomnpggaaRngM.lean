/- The document's own answers of rings. -/
import Derived.Test.YtofeiheomnpggaaRngL
namespace Go.Proofs.Ytofeiheomnpggaa
open Go.RowKit Go.Lib

set_option maxHeartbeats 1000000 in
set_option maxRecDepth 100000 in
theorem refDesc_out (v : Value) (l : List UInt8) (b z : Int) (i : Int) (h0 : okR l.length b z = false) (hl : l.length ≤ 140737488355328) (w : World) (hv : IsArg w v l) :
    Calls Try.prog 15 #[.agg #[v], .int .i64 b, .int .i64 z, .int .i64 i] w fun e w' => e = .returned (.tuple #[.agg #[.int .u64 0, .int .u32 0, .int .u16 0, .int .u16 0], .int .i64 70]) ∧ Below w.heap.size w w' := by
  have HV := Lib.hid hv
  have HMX := Lib.hid (show l.length ≤ maxLen by unfold maxLen; omega)
  have HC := Lib.hid h0
  obtain ⟨va, vc, rfl, _⟩ := hv.shape
  have HB := Lib.hid (((Below.refl w.heap.size w).alloc (Nat.le_refl _) (.cells #[.slice va l.length vc] 28)).alloc (by simp) (.cells #[.int .u64 0, .int .u32 0, .int .u16 0, .int .u16 0] 44))
  have HM := Lib.hid (row_keep (heap_alloc_new w (.cells #[.slice va l.length vc] 28)) ((Below.refl _ _).alloc (Nat.le_refl _) (.cells #[.int .u64 0, .int .u32 0, .int .u16 0, .int .u16 0] 44)))
  have HR := Lib.hid (show ((w.alloc (.cells #[.slice va l.length vc] 28)).alloc (.cells #[.int .u64 0, .int .u32 0, .int .u16 0, .int .u16 0] 44)).heap[w.heap.size + 1]? = some (.cells #[.int .u64 0, .int .u32 0, .int .u16 0, .int .u16 0] 44) by simpa using heap_alloc_new (w.alloc (.cells #[.slice va l.length vc] 28)) (.cells #[.int .u64 0, .int .u32 0, .int .u16 0, .int .u16 0] 44))
  clear hv hl h0
  go_enter Try.func15, Try.ntmps15
  go_wp2_with fail
  refine (refRingCheck_any _ _ _ HMX.out _ _ false HC.out _).mono ?_
  rintro e w1 ⟨rfl, hb⟩
  replace HM := Lib.hid (row_keep HM.out hb)
  replace HR := Lib.hid (row_keep HR.out hb)
  replace HB := Lib.hid (HB.out.trans (hb.mono HB.out.size))
  clear hb
  obtain ⟨r0, g0⟩ := at_cell HR.out 0 _ rfl
  obtain ⟨r1, g1⟩ := at_cell HR.out 1 _ rfl
  obtain ⟨r2, g2⟩ := at_cell HR.out 2 _ rfl
  obtain ⟨r3, g3⟩ := at_cell HR.out 3 _ rfl
  go_wp2
  refine bodyPost_ret (v := .tuple #[.agg #[.int .u64 0, .int .u32 0, .int .u16 0, .int .u16 0], .int .i64 70]) (by simp [results, Try.results15, go_sem, r0, r1, r2, r3]) rfl ⟨rfl, ((((HB.out.setCell (by simp) _).setCell (by simp) _).setCell (by simp) _).setCell (by simp) _)⟩

set_option maxHeartbeats 1000000 in
set_option maxRecDepth 100000 in
theorem refDesc_arg (v : Value) (l : List UInt8) (b z : Int) (i : Int) (h0 : okR l.length b z = true) (hi : ¬ (0 ≤ i ∧ i < z)) (hl : l.length ≤ 140737488355328) (w : World) (hv : IsArg w v l) :
    Calls Try.prog 15 #[.agg #[v], .int .i64 b, .int .i64 z, .int .i64 i] w fun e w' => e = .returned (.tuple #[.agg #[.int .u64 0, .int .u32 0, .int .u16 0, .int .u16 0], .int .i64 2]) ∧ Below w.heap.size w w' := by
  have HV := Lib.hid hv
  have HMX := Lib.hid (show l.length ≤ maxLen by unfold maxLen; omega)
  have HC := Lib.hid h0
  obtain ⟨va, vc, rfl, _⟩ := hv.shape
  have HB := Lib.hid (((Below.refl w.heap.size w).alloc (Nat.le_refl _) (.cells #[.slice va l.length vc] 28)).alloc (by simp) (.cells #[.int .u64 0, .int .u32 0, .int .u16 0, .int .u16 0] 44))
  have HM := Lib.hid (row_keep (heap_alloc_new w (.cells #[.slice va l.length vc] 28)) ((Below.refl _ _).alloc (Nat.le_refl _) (.cells #[.int .u64 0, .int .u32 0, .int .u16 0, .int .u16 0] 44)))
  have HR := Lib.hid (show ((w.alloc (.cells #[.slice va l.length vc] 28)).alloc (.cells #[.int .u64 0, .int .u32 0, .int .u16 0, .int .u16 0] 44)).heap[w.heap.size + 1]? = some (.cells #[.int .u64 0, .int .u32 0, .int .u16 0, .int .u16 0] 44) by simpa using heap_alloc_new (w.alloc (.cells #[.slice va l.length vc] 28)) (.cells #[.int .u64 0, .int .u32 0, .int .u16 0, .int .u16 0] 44))
  have h2 : i < 0 ∨ (0 ≤ i ∧ z ≤ i) := by omega
  clear hv hl h0 hi
  rcases h2 with h2 | ⟨h2, h3⟩
  all_goals
    go_enter Try.func15, Try.ntmps15
    go_wp2_with fail
    refine (refRingCheck_any _ _ _ HMX.out _ _ true HC.out _).mono ?_
    rintro e w1 ⟨rfl, hb⟩
    replace HM := Lib.hid (row_keep HM.out hb)
    replace HR := Lib.hid (row_keep HR.out hb)
    replace HB := Lib.hid (HB.out.trans (hb.mono HB.out.size))
    clear hb
    obtain ⟨r0, g0⟩ := at_cell HR.out 0 _ rfl
    obtain ⟨r1, g1⟩ := at_cell HR.out 1 _ rfl
    obtain ⟨r2, g2⟩ := at_cell HR.out 2 _ rfl
    obtain ⟨r3, g3⟩ := at_cell HR.out 3 _ rfl
    go_wp2
    refine bodyPost_ret (v := .tuple #[.agg #[.int .u64 0, .int .u32 0, .int .u16 0, .int .u16 0], .int .i64 2]) (by simp [results, Try.results15, go_sem, r0, r1, r2, r3]) rfl ⟨rfl, ((((HB.out.setCell (by simp) _).setCell (by simp) _).setCell (by simp) _).setCell (by simp) _)⟩

set_option maxHeartbeats 1000000 in
set_option maxRecDepth 100000 in
theorem refSetDesc_out (v : Value) (l : List UInt8) (b z : Int) (i : Int) (a n f x : Nat) (h0 : okR l.length b z = false) (hl : l.length ≤ 140737488355328) (w : World) (hv : IsArg w v l) :
    Calls Try.prog 17 #[.agg #[v], .int .i64 b, .int .i64 z, .int .i64 i, .agg #[.int .u64 (a : Nat), .int .u32 (n : Nat), .int .u16 (f : Nat), .int .u16 (x : Nat)]] w (Wrote w v l l 70) := by
  have HV := Lib.hid hv
  have HMX := Lib.hid (show l.length ≤ maxLen by unfold maxLen; omega)
  have HC := Lib.hid h0
  obtain ⟨va, vc, rfl, _⟩ := hv.shape
  obtain ⟨t1, t2, t3, t4⟩ := three_new w (.slice va l.length vc) #[.int .u64 (a : Nat), .int .u32 (n : Nat), .int .u16 (f : Nat), .int .u16 (x : Nat)] (.slice none 0 0) 28 44 28
  have HB := Lib.hid t4
  have HM := Lib.hid t1
  have HD := Lib.hid t2
  have HR := Lib.hid t3
  clear t1 t2 t3 t4
  clear hv hl h0
  go_enter Try.func17, Try.ntmps17
  go_wp2_with fail
  refine (refRingCheck_any _ _ _ HMX.out _ _ false HC.out _).mono ?_
  rintro e w1 ⟨rfl, hb⟩
  replace HM := Lib.hid (row_keep HM.out hb)
  replace HR := Lib.hid (row_keep HR.out hb)
  replace HD := Lib.hid (row_keep HD.out hb)
  replace HB := Lib.hid (HB.out.trans (hb.mono HB.out.size))
  clear hb
  obtain ⟨r0, g0⟩ := at_cell HR.out 0 _ rfl
  obtain ⟨c0, _⟩ := one_cell HM.out
  go_wp2
  refine bodyPost_ret (v := .tuple #[.agg #[.slice va l.length vc], .int .i64 70]) (by simp [results, Try.results17, go_sem, r0]) rfl ⟨va, vc, rfl, .inl ⟨rfl, rfl⟩, (HB.out.setCell (by simp; omega) _)⟩

set_option maxHeartbeats 1000000 in
set_option maxRecDepth 100000 in
theorem refSetDesc_arg (v : Value) (l : List UInt8) (b z : Int) (i : Int) (a n f x : Nat) (h0 : okR l.length b z = true) (hi : ¬ (0 ≤ i ∧ i < z)) (hl : l.length ≤ 140737488355328) (w : World) (hv : IsArg w v l) :
    Calls Try.prog 17 #[.agg #[v], .int .i64 b, .int .i64 z, .int .i64 i, .agg #[.int .u64 (a : Nat), .int .u32 (n : Nat), .int .u16 (f : Nat), .int .u16 (x : Nat)]] w (Wrote w v l l 2) := by
  have HV := Lib.hid hv
  have HMX := Lib.hid (show l.length ≤ maxLen by unfold maxLen; omega)
  have HC := Lib.hid h0
  obtain ⟨va, vc, rfl, _⟩ := hv.shape
  obtain ⟨t1, t2, t3, t4⟩ := three_new w (.slice va l.length vc) #[.int .u64 (a : Nat), .int .u32 (n : Nat), .int .u16 (f : Nat), .int .u16 (x : Nat)] (.slice none 0 0) 28 44 28
  have HB := Lib.hid t4
  have HM := Lib.hid t1
  have HD := Lib.hid t2
  have HR := Lib.hid t3
  clear t1 t2 t3 t4
  have h2 : i < 0 ∨ (0 ≤ i ∧ z ≤ i) := by omega
  clear hv hl h0 hi
  rcases h2 with h2 | ⟨h2, h3⟩
  all_goals
    go_enter Try.func17, Try.ntmps17
    go_wp2_with fail
    refine (refRingCheck_any _ _ _ HMX.out _ _ true HC.out _).mono ?_
    rintro e w1 ⟨rfl, hb⟩
    replace HM := Lib.hid (row_keep HM.out hb)
    replace HR := Lib.hid (row_keep HR.out hb)
    replace HD := Lib.hid (row_keep HD.out hb)
    replace HB := Lib.hid (HB.out.trans (hb.mono HB.out.size))
    clear hb
    obtain ⟨r0, g0⟩ := at_cell HR.out 0 _ rfl
    obtain ⟨c0, _⟩ := one_cell HM.out
    go_wp2
    refine bodyPost_ret (v := .tuple #[.agg #[.slice va l.length vc], .int .i64 2]) (by simp [results, Try.results17, go_sem, r0]) rfl ⟨va, vc, rfl, .inl ⟨rfl, rfl⟩, (HB.out.setCell (by simp; omega) _)⟩

set_option maxHeartbeats 1000000 in
set_option maxRecDepth 100000 in
theorem refAvail_out (v : Value) (l : List UInt8) (b z : Int)  (h0 : okR l.length b z = false) (hl : l.length ≤ 140737488355328) (w : World) (hv : IsArg w v l) :
    Calls Try.prog 21 #[.agg #[v], .int .i64 b, .int .i64 z] w fun e w' => e = .returned (.tuple #[.int .u16 0, .int .i64 70]) ∧ Below w.heap.size w w' := by
  have HV := Lib.hid hv
  have HMX := Lib.hid (show l.length ≤ maxLen by unfold maxLen; omega)
  have HC := Lib.hid h0
  obtain ⟨va, vc, rfl, _⟩ := hv.shape
  have HB := Lib.hid ((Below.refl w.heap.size w).alloc (Nat.le_refl _) (.cells #[.slice va l.length vc] 28))
  have HM := Lib.hid (heap_alloc_new w (.cells #[.slice va l.length vc] 28))
  clear hv hl h0
  go_enter Try.func21, Try.ntmps21
  go_wp2_with fail
  refine (refRingCheck_any _ _ _ HMX.out _ _ false HC.out _).mono ?_
  rintro e w1 ⟨rfl, hb⟩
  replace HM := Lib.hid (row_keep HM.out hb)
  replace HB := Lib.hid (HB.out.trans (hb.mono HB.out.size))
  clear hb
  go_wp2
  go_ret2
  exact ⟨rfl, HB.out⟩

set_option maxHeartbeats 1000000 in
set_option maxRecDepth 100000 in
theorem refAvailAt_out (v : Value) (l : List UInt8) (b z : Int) (k : Nat) (h0 : okR l.length b z = false) (hl : l.length ≤ 140737488355328) (w : World) (hv : IsArg w v l) :
    Calls Try.prog 24 #[.agg #[v], .int .i64 b, .int .i64 z, .int .u16 (k : Nat)] w fun e w' => e = .returned (.tuple #[.int .i64 0, .int .i64 70]) ∧ Below w.heap.size w w' := by
  have HV := Lib.hid hv
  have HMX := Lib.hid (show l.length ≤ maxLen by unfold maxLen; omega)
  have HC := Lib.hid h0
  obtain ⟨va, vc, rfl, _⟩ := hv.shape
  have HB := Lib.hid ((Below.refl w.heap.size w).alloc (Nat.le_refl _) (.cells #[.slice va l.length vc] 28))
  have HM := Lib.hid (heap_alloc_new w (.cells #[.slice va l.length vc] 28))
  clear hv hl h0
  go_enter Try.func24, Try.ntmps24
  go_wp2_with fail
  refine (refRingCheck_any _ _ _ HMX.out _ _ false HC.out _).mono ?_
  rintro e w1 ⟨rfl, hb⟩
  replace HM := Lib.hid (row_keep HM.out hb)
  replace HB := Lib.hid (HB.out.trans (hb.mono HB.out.size))
  clear hb
  go_wp2
  go_ret2
  exact ⟨rfl, HB.out⟩

set_option maxHeartbeats 1000000 in
set_option maxRecDepth 100000 in
theorem refOffer_out (v : Value) (l : List UInt8) (b z : Int) (k : Nat) (h : Int) (h0 : okR l.length b z = false) (hl : l.length ≤ 140737488355328) (w : World) (hv : IsArg w v l) :
    Calls Try.prog 19 #[.agg #[v], .int .i64 b, .int .i64 z, .int .u16 (k : Nat), .int .i64 h] w (Wrote w v l l 70) := by
  have HV := Lib.hid hv
  have HMX := Lib.hid (show l.length ≤ maxLen by unfold maxLen; omega)
  have HC := Lib.hid h0
  obtain ⟨va, vc, rfl, _⟩ := hv.shape
  have HB := Lib.hid (((Below.refl w.heap.size w).alloc (Nat.le_refl _) (.cells #[.slice va l.length vc] 28)).alloc (by simp) (.cells #[.slice none 0 0] 28))
  have HM := Lib.hid (row_keep (heap_alloc_new w (.cells #[.slice va l.length vc] 28)) ((Below.refl _ _).alloc (Nat.le_refl _) (.cells #[.slice none 0 0] 28)))
  have HR := Lib.hid (show ((w.alloc (.cells #[.slice va l.length vc] 28)).alloc (.cells #[.slice none 0 0] 28)).heap[w.heap.size + 1]? = some (.cells #[.slice none 0 0] 28) by simpa using heap_alloc_new (w.alloc (.cells #[.slice va l.length vc] 28)) (.cells #[.slice none 0 0] 28))
  clear hv hl h0
  go_enter Try.func19, Try.ntmps19
  go_wp2_with fail
  refine (refRingCheck_any _ _ _ HMX.out _ _ false HC.out _).mono ?_
  rintro e w1 ⟨rfl, hb⟩
  replace HM := Lib.hid (row_keep HM.out hb)
  replace HR := Lib.hid (row_keep HR.out hb)
  replace HB := Lib.hid (HB.out.trans (hb.mono HB.out.size))
  clear hb
  obtain ⟨r0, g0⟩ := at_cell HR.out 0 _ rfl
  obtain ⟨c0, _⟩ := one_cell HM.out
  go_wp2
  refine bodyPost_ret (v := .tuple #[.agg #[.slice va l.length vc], .int .i64 70]) (by simp [results, Try.results19, go_sem, r0]) rfl ⟨va, vc, rfl, .inl ⟨rfl, rfl⟩, (HB.out.setCell (by simp) _)⟩

set_option maxHeartbeats 1000000 in
set_option maxRecDepth 100000 in
theorem refUsed_out (v : Value) (l : List UInt8) (b z : Int)  (h0 : okR l.length b z = false) (hl : l.length ≤ 140737488355328) (w : World) (hv : IsArg w v l) :
    Calls Try.prog 23 #[.agg #[v], .int .i64 b, .int .i64 z] w fun e w' => e = .returned (.tuple #[.int .u16 0, .int .i64 70]) ∧ Below w.heap.size w w' := by
  have HV := Lib.hid hv
  have HMX := Lib.hid (show l.length ≤ maxLen by unfold maxLen; omega)
  have HC := Lib.hid h0
  obtain ⟨va, vc, rfl, _⟩ := hv.shape
  have HB := Lib.hid ((Below.refl w.heap.size w).alloc (Nat.le_refl _) (.cells #[.slice va l.length vc] 28))
  have HM := Lib.hid (heap_alloc_new w (.cells #[.slice va l.length vc] 28))
  clear hv hl h0
  go_enter Try.func23, Try.ntmps23
  go_wp2_with fail
  refine (refRingCheck_any _ _ _ HMX.out _ _ false HC.out _).mono ?_
  rintro e w1 ⟨rfl, hb⟩
  replace HM := Lib.hid (row_keep HM.out hb)
  replace HB := Lib.hid (HB.out.trans (hb.mono HB.out.size))
  clear hb
  go_wp2
  go_ret2
  exact ⟨rfl, HB.out⟩

set_option maxHeartbeats 1000000 in
set_option maxRecDepth 100000 in
theorem refUsedAt_out (v : Value) (l : List UInt8) (b z : Int) (k : Nat) (h0 : okR l.length b z = false) (hl : l.length ≤ 140737488355328) (w : World) (hv : IsArg w v l) :
    Calls Try.prog 25 #[.agg #[v], .int .i64 b, .int .i64 z, .int .u16 (k : Nat)] w fun e w' => e = .returned (.tuple #[.agg #[.int .u32 0, .int .u32 0], .int .i64 70]) ∧ Below w.heap.size w w' := by
  have HV := Lib.hid hv
  have HMX := Lib.hid (show l.length ≤ maxLen by unfold maxLen; omega)
  have HC := Lib.hid h0
  obtain ⟨va, vc, rfl, _⟩ := hv.shape
  have HB := Lib.hid (((Below.refl w.heap.size w).alloc (Nat.le_refl _) (.cells #[.slice va l.length vc] 28)).alloc (by simp) (.cells #[.int .u32 0, .int .u32 0] 25))
  have HM := Lib.hid (row_keep (heap_alloc_new w (.cells #[.slice va l.length vc] 28)) ((Below.refl _ _).alloc (Nat.le_refl _) (.cells #[.int .u32 0, .int .u32 0] 25)))
  have HR := Lib.hid (show ((w.alloc (.cells #[.slice va l.length vc] 28)).alloc (.cells #[.int .u32 0, .int .u32 0] 25)).heap[w.heap.size + 1]? = some (.cells #[.int .u32 0, .int .u32 0] 25) by simpa using heap_alloc_new (w.alloc (.cells #[.slice va l.length vc] 28)) (.cells #[.int .u32 0, .int .u32 0] 25))
  clear hv hl h0
  go_enter Try.func25, Try.ntmps25
  go_wp2_with fail
  refine (refRingCheck_any _ _ _ HMX.out _ _ false HC.out _).mono ?_
  rintro e w1 ⟨rfl, hb⟩
  replace HM := Lib.hid (row_keep HM.out hb)
  replace HR := Lib.hid (row_keep HR.out hb)
  replace HB := Lib.hid (HB.out.trans (hb.mono HB.out.size))
  clear hb
  obtain ⟨r0, g0⟩ := at_cell HR.out 0 _ rfl
  obtain ⟨r1, g1⟩ := at_cell HR.out 1 _ rfl
  go_wp2
  refine bodyPost_ret (v := .tuple #[.agg #[.int .u32 0, .int .u32 0], .int .i64 70]) (by simp [results, Try.results25, go_sem, r0, r1]) rfl ⟨rfl, ((HB.out.setCell (by simp) _).setCell (by simp) _)⟩

set_option maxHeartbeats 1000000 in
set_option maxRecDepth 100000 in
theorem refReturn_out (v : Value) (l : List UInt8) (b z : Int) (k : Nat) (y0 y1 : Nat) (h0 : okR l.length b z = false) (hl : l.length ≤ 140737488355328) (w : World) (hv : IsArg w v l) :
    Calls Try.prog 20 #[.agg #[v], .int .i64 b, .int .i64 z, .int .u16 (k : Nat), .agg #[.int .u32 (y0 : Nat), .int .u32 (y1 : Nat)]] w (Wrote w v l l 70) := by
  have HV := Lib.hid hv
  have HMX := Lib.hid (show l.length ≤ maxLen by unfold maxLen; omega)
  have HC := Lib.hid h0
  obtain ⟨va, vc, rfl, _⟩ := hv.shape
  obtain ⟨t1, t2, t3, t4⟩ := three_new w (.slice va l.length vc) #[.int .u32 (y0 : Nat), .int .u32 (y1 : Nat)] (.slice none 0 0) 28 25 28
  have HB := Lib.hid t4
  have HM := Lib.hid t1
  have HD := Lib.hid t2
  have HR := Lib.hid t3
  clear t1 t2 t3 t4
  clear hv hl h0
  go_enter Try.func20, Try.ntmps20
  go_wp2_with fail
  refine (refRingCheck_any _ _ _ HMX.out _ _ false HC.out _).mono ?_
  rintro e w1 ⟨rfl, hb⟩
  replace HM := Lib.hid (row_keep HM.out hb)
  replace HR := Lib.hid (row_keep HR.out hb)
  replace HD := Lib.hid (row_keep HD.out hb)
  replace HB := Lib.hid (HB.out.trans (hb.mono HB.out.size))
  clear hb
  obtain ⟨r0, g0⟩ := at_cell HR.out 0 _ rfl
  obtain ⟨c0, _⟩ := one_cell HM.out
  go_wp2
  refine bodyPost_ret (v := .tuple #[.agg #[.slice va l.length vc], .int .i64 70]) (by simp [results, Try.results20, go_sem, r0]) rfl ⟨va, vc, rfl, .inl ⟨rfl, rfl⟩, (HB.out.setCell (by simp; omega) _)⟩
end Go.Proofs.Ytofeiheomnpggaa
