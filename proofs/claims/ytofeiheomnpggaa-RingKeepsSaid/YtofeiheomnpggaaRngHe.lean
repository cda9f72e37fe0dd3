/- What the examples of the law's package come to: true. -/
import Derived.Test.YtofeiheomnpggaaRngQ
namespace Go.Proofs.Ytofeiheomnpggaa
open Go.RowKit Go.Lib

structure HeadsFacts (l G1 G2 G3 : List UInt8) : Prop where
  n0 : l.length = 120
  n1 : G1.length = 120
  n2 : G2.length = 120
  n3 : G3.length = 120
  f1 : ∀ k : List UInt8, k.length = 120 → descF k.length 8 4 1 = 0
  f2 : ∀ k : List UInt8, k.length = 120 → ringF k.length 8 4 = 0
  f3 : ringF l.length 9 4 = 70
  x0 : ((descX G1 8 4 1 0 8 : Nat) : Int) = 70000
  x1 : ((descX G1 8 4 1 8 4 : Nat) : Int) = 5
  x2 : ((descX G1 8 4 1 12 2 : Nat) : Int) = 3
  x3 : ((descX G1 8 4 1 14 2 : Nat) : Int) = 2
  av : ((availX G2 8 4 : Nat) : Int) = 0
  at3 : ((availAtX G2 8 4 3 : Nat) : Int) = 3
  us : ((usedX G3 8 4 : Nat) : Int) = 5
  u0 : ((usedAtX G3 8 4 0 0 : Nat) : Int) = 3
  u1 : ((usedAtX G3 8 4 0 4 : Nat) : Int) = 9
  um : ((usedX l 9 4 : Nat) : Int) = 0
theorem heads_plain (l : List UInt8) (hl : l.length = 120) (G1 G2 G3 : List UInt8) (h1 : setX l 8 4 1 70000 5 3 2 = G1) (h2 : offerX G1 8 4 65535 3 = G2) (h3 : returnX G2 8 4 4 3 9 = G3) : HeadsFacts l G1 G2 G3 := by
  have hok : ∀ k : List UInt8, k.length = 120 → RingOk k.length 8 4 := fun k hk => ⟨by omega, .inr (.inr (.inl rfl)), by rw [hk]; decide⟩
  have n1 : G1.length = 120 := by rw [← h1, setX_length, hl]
  have n2 : G2.length = 120 := by rw [← h2, offerX_length, n1]
  have n3 : G3.length = 120 := by rw [← h3, returnX_length, n2]
  have e1 : setD l 24 70000 5 3 2 = G1 := by rw [← h1]; exact (setX_ok (B := 8) (N := 4) (I := 1) (hok l hl) (by decide) 70000 5 3 2).symm
  have e2 : offerD G1 8 4 65535 3 = G2 := by rw [← h2]; exact (offerX_ok (B := 8) (N := 4) (hok G1 n1) 65535 3).symm
  have e3 : returnD G2 8 4 4 3 9 = G3 := by rw [← h3]; exact (returnX_ok (B := 8) (N := 4) (hok G2 n2) 4 3 9).symm
  have t := setD_there (l := l) (p := 24) 70000 5 3 2 (by omega) (by decide) (by decide) (by decide) (by decide)
  rw [e1] at t
  have f3 : ringF l.length 9 4 = 70 := by rw [hl]; decide
  refine { n0 := hl, n1 := n1, n2 := n2, n3 := n3, f1 := fun k hk => by rw [hk]; decide, f2 := fun k hk => by rw [hk]; decide, f3 := f3, x0 := ?_, x1 := ?_, x2 := ?_, x3 := ?_, av := ?_, at3 := ?_, us := ?_, u0 := ?_, u1 := ?_, um := ?_ }
  · have h : descX G1 8 4 1 0 8 = numAt G1 24 8 := descX_ok (B := 8) (N := 4) (I := 1) (hok G1 n1) (by decide) 0 8
    rw [h, t.1]; rfl
  · have h : descX G1 8 4 1 8 4 = numAt G1 (24 + 8) 4 := descX_ok (B := 8) (N := 4) (I := 1) (hok G1 n1) (by decide) 8 4
    rw [h, t.2.1]; rfl
  · have h : descX G1 8 4 1 12 2 = numAt G1 (24 + 12) 2 := descX_ok (B := 8) (N := 4) (I := 1) (hok G1 n1) (by decide) 12 2
    rw [h, t.2.2.1]; rfl
  · have h : descX G1 8 4 1 14 2 = numAt G1 (24 + 14) 2 := descX_ok (B := 8) (N := 4) (I := 1) (hok G1 n1) (by decide) 14 2
    rw [h, t.2.2.2]; rfl
  · have h : availX G2 8 4 = numAt G2 (8 + 16 * 4 + 2) 2 := availX_ok (B := 8) (N := 4) (hok G2 n2)
    rw [h, ← e2, offerD_index 65535 3 (hok G1 n1)]; rfl
  · have h : availAtX G2 8 4 3 = numAt G2 (8 + 16 * 4 + 4 + 2 * (3 % 4)) 2 := availAtX_ok (B := 8) (N := 4) (hok G2 n2) 3
    rw [h, ← e2, offerD_entry 65535 3 3 (by decide) (by decide) (hok G1 n1)]; rfl
  · have h : usedX G3 8 4 = numAt G3 (8 + secN 4 + 2) 2 := usedX_ok (B := 8) (N := 4) (hok G3 n3)
    rw [h, ← e3, returnD_index 4 3 9 (hok G2 n2)]; rfl
  · have h : usedAtX G3 8 4 0 0 = numAt G3 (8 + secN 4 + 4 + 8 * (0 % 4)) 4 := usedAtX_ok (B := 8) (N := 4) (hok G3 n3) 0 0
    rw [h, ← e3, (returnD_entry 4 0 3 9 (by decide) (by decide) (by decide) (hok G2 n2)).1]; rfl
  · have h : usedAtX G3 8 4 0 4 = numAt G3 (8 + secN 4 + 4 + 8 * (0 % 4) + 4) 4 := usedAtX_ok (B := 8) (N := 4) (hok G3 n3) 0 4
    rw [h, ← e3, (returnD_entry 4 0 3 9 (by decide) (by decide) (by decide) (hok G2 n2)).2]; rfl
  · rw [usedX, if_neg (by rw [f3]; decide)]; rfl

theorem desc_this (v : Value) (l : List UInt8) (b z i : Int) (F V0 V1 V2 V3 : Int) (hF : descF l.length b z i = F) (h0 : ((descX l b z i 0 8 : Nat) : Int) = V0) (h1 : ((descX l b z i 8 4 : Nat) : Int) = V1) (h2 : ((descX l b z i 12 2 : Nat) : Int) = V2) (h3 : ((descX l b z i 14 2 : Nat) : Int) = V3) (hl : l.length ≤ maxLen) (w : World) (hv : IsArg w v l) :
    Calls Try.prog 14 #[.agg #[v], .int .i64 b, .int .i64 z, .int .i64 i] w fun e w' => e = .returned (.tuple #[.agg #[.int .u64 V0, .int .u32 V1, .int .u16 V2, .int .u16 V3], .int .i64 F]) ∧ Below w.heap.size w w' := by
  subst h0
  subst h1
  subst h2
  subst h3
  exact desc_any v l b z i F _ _ _ _ hF rfl rfl rfl rfl hl w hv
theorem avail_this (v : Value) (l : List UInt8) (b z : Int) (F V : Int) (hF : ringF l.length b z = F) (hy : ((availX l b z : Nat) : Int) = V) (hl : l.length ≤ maxLen) (w : World) (hv : IsArg w v l) :
    Calls Try.prog 12 #[.agg #[v], .int .i64 b, .int .i64 z] w fun e w' => e = .returned (.tuple #[.int .u16 V, .int .i64 F]) ∧ Below w.heap.size w w' := by
  subst hy
  exact avail_any v l b z F _ hF rfl hl w hv
theorem used_this (v : Value) (l : List UInt8) (b z : Int) (F V : Int) (hF : ringF l.length b z = F) (hy : ((usedX l b z : Nat) : Int) = V) (hl : l.length ≤ maxLen) (w : World) (hv : IsArg w v l) :
    Calls Try.prog 22 #[.agg #[v], .int .i64 b, .int .i64 z] w fun e w' => e = .returned (.tuple #[.int .u16 V, .int .i64 F]) ∧ Below w.heap.size w w' := by
  subst hy
  exact used_any v l b z F _ hF rfl hl w hv
theorem availAt_this (v : Value) (l : List UInt8) (b z : Int) (k : Nat) (hk : k < 65536) (K F V : Int) (hK : (k : Int) = K) (hF : ringF l.length b z = F) (hy : ((availAtX l b z k : Nat) : Int) = V) (hl : l.length ≤ maxLen) (w : World) (hv : IsArg w v l) :
    Calls Try.prog 10 #[.agg #[v], .int .i64 b, .int .i64 z, .int .u16 K] w fun e w' => e = .returned (.tuple #[.int .i64 V, .int .i64 F]) ∧ Below w.heap.size w w' := by
  subst hy
  subst hK
  exact availAt_any v l b z k hk F _ hF rfl hl w hv
theorem usedAt_this (v : Value) (l : List UInt8) (b z : Int) (k : Nat) (hk : k < 65536) (K F V0 V1 : Int) (hK : (k : Int) = K) (hF : ringF l.length b z = F) (h0 : ((usedAtX l b z k 0 : Nat) : Int) = V0) (h1 : ((usedAtX l b z k 4 : Nat) : Int) = V1) (hl : l.length ≤ maxLen) (w : World) (hv : IsArg w v l) :
    Calls Try.prog 11 #[.agg #[v], .int .i64 b, .int .i64 z, .int .u16 K] w fun e w' => e = .returned (.tuple #[.agg #[.int .u32 V0, .int .u32 V1], .int .i64 F]) ∧ Below w.heap.size w w' := by
  subst h0
  subst h1
  subst hK
  exact usedAt_any v l b z k hk F _ _ hF rfl rfl hl w hv
theorem run_zeros120 (W : World) : (Instr.makeSlice 26 (.int .i64 120) (.int .i64 120)).run Try.prog W = .ok (.slice (some ⟨W.heap.size, 0, none⟩) 120 120) (W.alloc (.cells (madeCells #[.int .u8 0] 120) 5)) :=
  run_make_row' (P := Try.prog) 26 5 (.int .u8 0) 1 Try.underlying26 info8 rfl .i64 .i64 120 (by decide) (by decide) W
theorem zeros_arg (w : World) (k : Nat) (hk : k ≤ 8192) : IsArg (w.alloc (.cells (madeCells #[.int .u8 0] k) 5)) (.slice (some ⟨w.heap.size, 0, none⟩) k k) (List.replicate k 0) := by
  refine isArg_of_row (t := 5) (fr := (0, 0)) ?_ (by simp) (by unfold maxLen; omega)
  have h : (byteCells (List.replicate k 0)).toArray = madeCells #[.int .u8 0] k := by
    have h1 := made_zeros k
    rw [zeros_bytes] at h1
    rw [← h1, Array.toArray_toList]
  rw [h]
  exact heap_alloc_new w _

set_option maxHeartbeats 4000000 in
set_option maxRecDepth 100000 in
theorem heads_any (w : World) : Calls Try.prog 7 #[] w fun e w' => e = .returned (.bool true) ∧ Below w.heap.size w w' := by
  obtain ⟨l, hl⟩ : ∃ l : List UInt8, l = List.replicate 120 0 := ⟨_, rfl⟩
  obtain ⟨G1, h1⟩ : ∃ G, setX l 8 4 1 70000 5 3 2 = G := ⟨_, rfl⟩
  obtain ⟨G2, h2⟩ : ∃ G, offerX G1 8 4 65535 3 = G := ⟨_, rfl⟩
  obtain ⟨G3, h3⟩ : ∃ G, returnX G2 8 4 4 3 9 = G := ⟨_, rfl⟩
  have hl2 : l.length = 120 := by rw [hl]; simp
  have HF := Lib.hid (heads_plain l hl2 G1 G2 G3 h1 h2 h3)
  have HG1 := Lib.hid h1
  have HG2 := Lib.hid h2
  have HG3 := Lib.hid h3
  have hzz := zeros_arg w 120 (by decide)
  rw [← hl] at hzz
  have AM := Lib.hid hzz
  obtain ⟨n0, hn0⟩ : ∃ n, n = l.length := ⟨_, rfl⟩
  have HN0 := Lib.hid hn0
  have BW := Lib.hid ((Below.refl w.heap.size w).alloc (Nat.le_refl _) (.cells (madeCells #[.int .u8 0] 120) 5))
  have hmk := run_zeros120
  clear hl h1 h2 h3 hl2 hzz hn0
  have hbx : Below (w.alloc (.cells (madeCells #[.int .u8 0] 120) 5)).heap.size (w.alloc (.cells (madeCells #[.int .u8 0] 120) 5)) ((w.alloc (.cells (madeCells #[.int .u8 0] 120) 5)).alloc (.cells #[.slice (some ⟨w.heap.size, 0, none⟩) 120 120] 28)) := (Below.refl _ _).alloc (Nat.le_refl _) _
  replace AM := Lib.hid (AM.out.below hbx)
  replace BW := Lib.hid (BW.out.trans (hbx.mono BW.out.size))
  have Rm := Lib.hid (heap_alloc_new (w.alloc (.cells (madeCells #[.int .u8 0] 120) 5)) (.cells #[.slice (some ⟨w.heap.size, 0, none⟩) 120 120] 28))
  clear hbx
  have hbx : Below ((w.alloc (.cells (madeCells #[.int .u8 0] 120) 5)).alloc (.cells #[.slice (some ⟨w.heap.size, 0, none⟩) 120 120] 28)).heap.size ((w.alloc (.cells (madeCells #[.int .u8 0] 120) 5)).alloc (.cells #[.slice (some ⟨w.heap.size, 0, none⟩) 120 120] 28)) (((w.alloc (.cells (madeCells #[.int .u8 0] 120) 5)).alloc (.cells #[.slice (some ⟨w.heap.size, 0, none⟩) 120 120] 28)).alloc (.cells #[.int .u64 70000, .int .u32 5, .int .u16 3, .int .u16 2] 44)) := (Below.refl _ _).alloc (Nat.le_refl _) _
  replace AM := Lib.hid (AM.out.below hbx)
  replace BW := Lib.hid (BW.out.trans (hbx.mono BW.out.size))
  replace Rm := Lib.hid (row_keep Rm.out hbx)
  have Rd := Lib.hid (heap_alloc_new ((w.alloc (.cells (madeCells #[.int .u8 0] 120) 5)).alloc (.cells #[.slice (some ⟨w.heap.size, 0, none⟩) 120 120] 28)) (.cells #[.int .u64 70000, .int .u32 5, .int .u16 3, .int .u16 2] 44))
  clear hbx
  have hs1 : (w.alloc (.cells (madeCells #[.int .u8 0] 120) 5)).heap.size = w.heap.size + 1 := by simp
  have hs2 : ((w.alloc (.cells (madeCells #[.int .u8 0] 120) 5)).alloc (.cells #[.slice (some ⟨w.heap.size, 0, none⟩) 120 120] 28)).heap.size = w.heap.size + 1 + 1 := by simp
  have hr1 := Rm.out
  have hr2 := Rd.out
  rw [hs1] at hr1
  rw [hs2] at hr2
  replace Rm := Lib.hid hr1
  replace Rd := Lib.hid hr2
  clear hs1 hs2 hr1 hr2
  go_enter Try.func7, Try.ntmps7
  go_wp2_with fail
  refine ((setDesc_any _ l 8 4 1 70000 5 3 2 (by decide) (by decide) (by decide) 0 G1 (HF.out.f1 _ HF.out.n0) HG1.out (by rw [HF.out.n0]; decide) _ AM.out).mono fun e w' h => h.arg AM.out).mono ?_
  rintro e w1 ⟨aa, ca, rfl, hd, hb⟩
  replace AM := Lib.hid (AM.out.below hb)
  replace BW := Lib.hid (BW.out.trans (hb.mono BW.out.size))
  replace Rm := Lib.hid (row_keep Rm.out hb)
  replace Rd := Lib.hid (row_keep Rd.out hb)
  have Aa := Lib.hid hd
  clear hd hb
  clear hmk
  have hbx : Below (w1).heap.size (w1) ((w1).alloc (.cells #[.slice aa l.length ca] 28)) := (Below.refl _ _).alloc (Nat.le_refl _) _
  replace AM := Lib.hid (AM.out.below hbx)
  replace BW := Lib.hid (BW.out.trans (hbx.mono BW.out.size))
  replace Rm := Lib.hid (row_keep Rm.out hbx)
  replace Rd := Lib.hid (row_keep Rd.out hbx)
  replace Aa := Lib.hid (Aa.out.below hbx)
  have Ra := Lib.hid (heap_alloc_new (w1) (.cells #[.slice aa l.length ca] 28))
  clear hbx
  go_wp2_with fail
  refine (desc_this _ G1 8 4 1 0 70000 5 3 2 (HF.out.f1 _ HF.out.n1) HF.out.x0 HF.out.x1 HF.out.x2 HF.out.x3 (by rw [HF.out.n1]; decide) _ Aa.out).mono ?_
  rintro e w2 ⟨rfl, hb⟩
  replace AM := Lib.hid (AM.out.below hb)
  replace BW := Lib.hid (BW.out.trans (hb.mono BW.out.size))
  replace Rm := Lib.hid (row_keep Rm.out hb)
  replace Rd := Lib.hid (row_keep Rd.out hb)
  replace Aa := Lib.hid (Aa.out.below hb)
  replace Ra := Lib.hid (row_keep Ra.out hb)
  clear hb
  have hbx : Below (w2).heap.size (w2) ((w2).alloc (.cells #[.int .u64 70000, .int .u32 5, .int .u16 3, .int .u16 2] 44)) := (Below.refl _ _).alloc (Nat.le_refl _) _
  replace AM := Lib.hid (AM.out.below hbx)
  replace BW := Lib.hid (BW.out.trans (hbx.mono BW.out.size))
  replace Rm := Lib.hid (row_keep Rm.out hbx)
  replace Rd := Lib.hid (row_keep Rd.out hbx)
  replace Aa := Lib.hid (Aa.out.below hbx)
  replace Ra := Lib.hid (row_keep Ra.out hbx)
  have Rb := Lib.hid (heap_alloc_new (w2) (.cells #[.int .u64 70000, .int .u32 5, .int .u16 3, .int .u16 2] 44))
  clear hbx
  obtain ⟨lRa0, zRa0⟩ := at_cell Ra.out 0 _ rfl
  clear zRa0
  go_wp2_with fail
  refine ((offer_any _ G1 8 4 65535 (by decide) 3 0 G2 (HF.out.f2 _ HF.out.n1) HG2.out (by rw [HF.out.n1]; decide) _ Aa.out).mono fun e w' h => h.arg Aa.out).mono ?_
  rintro e w3 ⟨ac, cc, rfl, hd, hb⟩
  clear lRa0
  replace AM := Lib.hid (AM.out.below hb)
  replace BW := Lib.hid (BW.out.trans (hb.mono BW.out.size))
  replace Rm := Lib.hid (row_keep Rm.out hb)
  replace Rd := Lib.hid (row_keep Rd.out hb)
  replace Aa := Lib.hid (Aa.out.below hb)
  replace Ra := Lib.hid (row_keep Ra.out hb)
  replace Rb := Lib.hid (row_keep Rb.out hb)
  have Ac := Lib.hid hd
  clear hd hb
  have hbx : Below (w3).heap.size (w3) ((w3).alloc (.cells #[.slice ac G1.length cc] 28)) := (Below.refl _ _).alloc (Nat.le_refl _) _
  replace AM := Lib.hid (AM.out.below hbx)
  replace BW := Lib.hid (BW.out.trans (hbx.mono BW.out.size))
  replace Rm := Lib.hid (row_keep Rm.out hbx)
  replace Rd := Lib.hid (row_keep Rd.out hbx)
  replace Aa := Lib.hid (Aa.out.below hbx)
  replace Ra := Lib.hid (row_keep Ra.out hbx)
  replace Rb := Lib.hid (row_keep Rb.out hbx)
  replace Ac := Lib.hid (Ac.out.below hbx)
  have Rc := Lib.hid (heap_alloc_new (w3) (.cells #[.slice ac G1.length cc] 28))
  clear hbx
  go_wp2_with fail
  refine (avail_this _ G2 8 4 0 0 (HF.out.f2 _ HF.out.n2) HF.out.av (by rw [HF.out.n2]; decide) _ Ac.out).mono ?_
  rintro e w4 ⟨rfl, hb⟩
  replace AM := Lib.hid (AM.out.below hb)
  replace BW := Lib.hid (BW.out.trans (hb.mono BW.out.size))
  replace Rm := Lib.hid (row_keep Rm.out hb)
  replace Rd := Lib.hid (row_keep Rd.out hb)
  replace Aa := Lib.hid (Aa.out.below hb)
  replace Ra := Lib.hid (row_keep Ra.out hb)
  replace Rb := Lib.hid (row_keep Rb.out hb)
  replace Ac := Lib.hid (Ac.out.below hb)
  replace Rc := Lib.hid (row_keep Rc.out hb)
  clear hb
  obtain ⟨lRc0, zRc0⟩ := at_cell Rc.out 0 _ rfl
  clear zRc0
  go_wp2_with fail
  refine (availAt_this _ G2 8 4 3 (by decide) 3 0 3 rfl (HF.out.f2 _ HF.out.n2) HF.out.at3 (by rw [HF.out.n2]; decide) _ Ac.out).mono ?_
  rintro e w5 ⟨rfl, hb⟩
  clear lRc0
  replace AM := Lib.hid (AM.out.below hb)
  replace BW := Lib.hid (BW.out.trans (hb.mono BW.out.size))
  replace Rm := Lib.hid (row_keep Rm.out hb)
  replace Rd := Lib.hid (row_keep Rd.out hb)
  replace Aa := Lib.hid (Aa.out.below hb)
  replace Ra := Lib.hid (row_keep Ra.out hb)
  replace Rb := Lib.hid (row_keep Rb.out hb)
  replace Ac := Lib.hid (Ac.out.below hb)
  replace Rc := Lib.hid (row_keep Rc.out hb)
  clear hb
  obtain ⟨lRc0, zRc0⟩ := at_cell Rc.out 0 _ rfl
  clear zRc0
  go_wp2_with fail
  refine ((return_any _ G2 8 4 4 (by decide) 3 9 (by decide) (by decide) 0 G3 (HF.out.f2 _ HF.out.n2) HG3.out (by rw [HF.out.n2]; decide) _ Ac.out).mono fun e w' h => h.arg Ac.out).mono ?_
  rintro e w6 ⟨ap, cp, rfl, hd, hb⟩
  clear lRc0
  replace AM := Lib.hid (AM.out.below hb)
  replace BW := Lib.hid (BW.out.trans (hb.mono BW.out.size))
  replace Rm := Lib.hid (row_keep Rm.out hb)
  replace Rd := Lib.hid (row_keep Rd.out hb)
  replace Aa := Lib.hid (Aa.out.below hb)
  replace Ra := Lib.hid (row_keep Ra.out hb)
  replace Rb := Lib.hid (row_keep Rb.out hb)
  replace Ac := Lib.hid (Ac.out.below hb)
  replace Rc := Lib.hid (row_keep Rc.out hb)
  have Ap := Lib.hid hd
  clear hd hb
  have hbx : Below (w6).heap.size (w6) ((w6).alloc (.cells #[.slice ap G2.length cp] 28)) := (Below.refl _ _).alloc (Nat.le_refl _) _
  replace AM := Lib.hid (AM.out.below hbx)
  replace BW := Lib.hid (BW.out.trans (hbx.mono BW.out.size))
  replace Rm := Lib.hid (row_keep Rm.out hbx)
  replace Rd := Lib.hid (row_keep Rd.out hbx)
  replace Aa := Lib.hid (Aa.out.below hbx)
  replace Ra := Lib.hid (row_keep Ra.out hbx)
  replace Rb := Lib.hid (row_keep Rb.out hbx)
  replace Ac := Lib.hid (Ac.out.below hbx)
  replace Rc := Lib.hid (row_keep Rc.out hbx)
  replace Ap := Lib.hid (Ap.out.below hbx)
  have Rp := Lib.hid (heap_alloc_new (w6) (.cells #[.slice ap G2.length cp] 28))
  clear hbx
  go_wp2_with fail
  refine (used_this _ G3 8 4 0 5 (HF.out.f2 _ HF.out.n3) HF.out.us (by rw [HF.out.n3]; decide) _ Ap.out).mono ?_
  rintro e w7 ⟨rfl, hb⟩
  replace AM := Lib.hid (AM.out.below hb)
  replace BW := Lib.hid (BW.out.trans (hb.mono BW.out.size))
  replace Rm := Lib.hid (row_keep Rm.out hb)
  replace Rd := Lib.hid (row_keep Rd.out hb)
  replace Aa := Lib.hid (Aa.out.below hb)
  replace Ra := Lib.hid (row_keep Ra.out hb)
  replace Rb := Lib.hid (row_keep Rb.out hb)
  replace Ac := Lib.hid (Ac.out.below hb)
  replace Rc := Lib.hid (row_keep Rc.out hb)
  replace Ap := Lib.hid (Ap.out.below hb)
  replace Rp := Lib.hid (row_keep Rp.out hb)
  clear hb
  obtain ⟨lRp0, zRp0⟩ := at_cell Rp.out 0 _ rfl
  clear zRp0
  go_wp2_with fail
  refine (usedAt_this _ G3 8 4 0 (by decide) 0 0 3 9 rfl (HF.out.f2 _ HF.out.n3) HF.out.u0 HF.out.u1 (by rw [HF.out.n3]; decide) _ Ap.out).mono ?_
  rintro e w8 ⟨rfl, hb⟩
  clear lRp0
  replace AM := Lib.hid (AM.out.below hb)
  replace BW := Lib.hid (BW.out.trans (hb.mono BW.out.size))
  replace Rm := Lib.hid (row_keep Rm.out hb)
  replace Rd := Lib.hid (row_keep Rd.out hb)
  replace Aa := Lib.hid (Aa.out.below hb)
  replace Ra := Lib.hid (row_keep Ra.out hb)
  replace Rb := Lib.hid (row_keep Rb.out hb)
  replace Ac := Lib.hid (Ac.out.below hb)
  replace Rc := Lib.hid (row_keep Rc.out hb)
  replace Ap := Lib.hid (Ap.out.below hb)
  replace Rp := Lib.hid (row_keep Rp.out hb)
  clear hb
  have hbx : Below (w8).heap.size (w8) ((w8).alloc (.cells #[.int .u32 3, .int .u32 9] 25)) := (Below.refl _ _).alloc (Nat.le_refl _) _
  replace AM := Lib.hid (AM.out.below hbx)
  replace BW := Lib.hid (BW.out.trans (hbx.mono BW.out.size))
  replace Rm := Lib.hid (row_keep Rm.out hbx)
  replace Rd := Lib.hid (row_keep Rd.out hbx)
  replace Aa := Lib.hid (Aa.out.below hbx)
  replace Ra := Lib.hid (row_keep Ra.out hbx)
  replace Rb := Lib.hid (row_keep Rb.out hbx)
  replace Ac := Lib.hid (Ac.out.below hbx)
  replace Rc := Lib.hid (row_keep Rc.out hbx)
  replace Ap := Lib.hid (Ap.out.below hbx)
  replace Rp := Lib.hid (row_keep Rp.out hbx)
  have Rv := Lib.hid (heap_alloc_new (w8) (.cells #[.int .u32 3, .int .u32 9] 25))
  clear hbx
  obtain ⟨lRm0, zRm0⟩ := at_cell Rm.out 0 _ rfl
  clear zRm0
  go_wp2_with fail
  refine (used_this _ l 9 4 70 0 HF.out.f3 HF.out.um (by rw [HF.out.n0]; decide) _ AM.out).mono ?_
  rintro e w9 ⟨rfl, hb⟩
  clear lRm0
  replace AM := Lib.hid (AM.out.below hb)
  replace BW := Lib.hid (BW.out.trans (hb.mono BW.out.size))
  replace Rm := Lib.hid (row_keep Rm.out hb)
  replace Rd := Lib.hid (row_keep Rd.out hb)
  replace Aa := Lib.hid (Aa.out.below hb)
  replace Ra := Lib.hid (row_keep Ra.out hb)
  replace Rb := Lib.hid (row_keep Rb.out hb)
  replace Ac := Lib.hid (Ac.out.below hb)
  replace Rc := Lib.hid (row_keep Rc.out hb)
  replace Ap := Lib.hid (Ap.out.below hb)
  replace Rp := Lib.hid (row_keep Rp.out hb)
  replace Rv := Lib.hid (row_keep Rv.out hb)
  clear hb
  go_wp2_with fail
  refine (size_any 4 112 (by decide) _).mono ?_
  rintro e w10 ⟨rfl, hb⟩
  replace AM := Lib.hid (AM.out.below hb)
  replace BW := Lib.hid (BW.out.trans (hb.mono BW.out.size))
  replace Rm := Lib.hid (row_keep Rm.out hb)
  replace Rd := Lib.hid (row_keep Rd.out hb)
  replace Aa := Lib.hid (Aa.out.below hb)
  replace Ra := Lib.hid (row_keep Ra.out hb)
  replace Rb := Lib.hid (row_keep Rb.out hb)
  replace Ac := Lib.hid (Ac.out.below hb)
  replace Rc := Lib.hid (row_keep Rc.out hb)
  replace Ap := Lib.hid (Ap.out.below hb)
  replace Rp := Lib.hid (row_keep Rp.out hb)
  replace Rv := Lib.hid (row_keep Rv.out hb)
  clear hb
  go_wp2_with fail
  refine (size_any 3 0 (by decide) _).mono ?_
  rintro e w11 ⟨rfl, hb⟩
  replace AM := Lib.hid (AM.out.below hb)
  replace BW := Lib.hid (BW.out.trans (hb.mono BW.out.size))
  replace Rm := Lib.hid (row_keep Rm.out hb)
  replace Rd := Lib.hid (row_keep Rd.out hb)
  replace Aa := Lib.hid (Aa.out.below hb)
  replace Ra := Lib.hid (row_keep Ra.out hb)
  replace Rb := Lib.hid (row_keep Rb.out hb)
  replace Ac := Lib.hid (Ac.out.below hb)
  replace Rc := Lib.hid (row_keep Rc.out hb)
  replace Ap := Lib.hid (Ap.out.below hb)
  replace Rp := Lib.hid (row_keep Rp.out hb)
  replace Rv := Lib.hid (row_keep Rv.out hb)
  clear hb
  obtain ⟨lRm0, zRm0⟩ := at_cell Rm.out 0 _ rfl
  clear zRm0
  go_wp2_with fail
  refine (ringCheck_any _ 120 120 (by decide) 8 4 true (by decide) _).mono ?_
  rintro e w12 ⟨rfl, hb⟩
  clear lRm0
  replace AM := Lib.hid (AM.out.below hb)
  replace BW := Lib.hid (BW.out.trans (hb.mono BW.out.size))
  replace Rm := Lib.hid (row_keep Rm.out hb)
  replace Rd := Lib.hid (row_keep Rd.out hb)
  replace Aa := Lib.hid (Aa.out.below hb)
  replace Ra := Lib.hid (row_keep Ra.out hb)
  replace Rb := Lib.hid (row_keep Rb.out hb)
  replace Ac := Lib.hid (Ac.out.below hb)
  replace Rc := Lib.hid (row_keep Rc.out hb)
  replace Ap := Lib.hid (Ap.out.below hb)
  replace Rp := Lib.hid (row_keep Rp.out hb)
  replace Rv := Lib.hid (row_keep Rv.out hb)
  clear hb
  obtain ⟨lRb0, zRb0⟩ := at_cell Rb.out 0 _ rfl
  clear zRb0
  obtain ⟨lRb1, zRb1⟩ := at_cell Rb.out 1 _ rfl
  clear zRb1
  obtain ⟨lRb2, zRb2⟩ := at_cell Rb.out 2 _ rfl
  clear zRb2
  obtain ⟨lRb3, zRb3⟩ := at_cell Rb.out 3 _ rfl
  clear zRb3
  obtain ⟨lRd0, zRd0⟩ := at_cell Rd.out 0 _ rfl
  clear zRd0
  obtain ⟨lRd1, zRd1⟩ := at_cell Rd.out 1 _ rfl
  clear zRd1
  obtain ⟨lRd2, zRd2⟩ := at_cell Rd.out 2 _ rfl
  clear zRd2
  obtain ⟨lRd3, zRd3⟩ := at_cell Rd.out 3 _ rfl
  clear zRd3
  obtain ⟨lRv0, zRv0⟩ := at_cell Rv.out 0 _ rfl
  clear zRv0
  obtain ⟨lRv1, zRv1⟩ := at_cell Rv.out 1 _ rfl
  clear zRv1
  have hq1 := desc_eql 70000 5 3 2 70000 5 3 2 true (by decide)
  have hq2 := used_eql 3 9 3 9 true (by decide)
  go_wp2
  go_ret
  exact ⟨rfl, BW.out⟩
end Go.Proofs.Ytofeiheomnpggaa
