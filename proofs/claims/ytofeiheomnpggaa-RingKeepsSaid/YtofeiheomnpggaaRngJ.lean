/- How a ring is written to: SetDesc. -/
import Derived.Test.YtofeiheomnpggaaRngI
namespace Go.Proofs.Ytofeiheomnpggaa
open Go.RowKit Go.Lib

/-- What is answered: memory, what came in or new, and a number. -/
def Wrote (w : World) (v : Value) (l G : List UInt8) (F : Int) (e : Ending) (w' : World) : Prop := ∃ ra rc, e = .returned (.tuple #[.agg #[.slice ra l.length rc], .int .i64 F]) ∧ Given w' w.heap.size v l (.slice ra l.length rc) G ∧ Below w.heap.size w w'
theorem three_box (w : World) (u : Value) (a n f x : Nat) : (((w.alloc (.cells #[u] 28)).alloc (.cells #[.int .u64 (a : Nat), .int .u32 (n : Nat), .int .u16 (f : Nat), .int .u16 (x : Nat)] 44)).alloc (.cells #[.slice none 0 0] 28)).heap[w.heap.size]? = some (.cells #[u] 28 (0, 0)) ∧ (((w.alloc (.cells #[u] 28)).alloc (.cells #[.int .u64 (a : Nat), .int .u32 (n : Nat), .int .u16 (f : Nat), .int .u16 (x : Nat)] 44)).alloc (.cells #[.slice none 0 0] 28)).heap[w.heap.size + 1]? = some (.cells #[.int .u64 (a : Nat), .int .u32 (n : Nat), .int .u16 (f : Nat), .int .u16 (x : Nat)] 44) ∧ (((w.alloc (.cells #[u] 28)).alloc (.cells #[.int .u64 (a : Nat), .int .u32 (n : Nat), .int .u16 (f : Nat), .int .u16 (x : Nat)] 44)).alloc (.cells #[.slice none 0 0] 28)).heap[w.heap.size + 2]? = some (.cells #[.slice none 0 0] 28) ∧ Below w.heap.size w (((w.alloc (.cells #[u] 28)).alloc (.cells #[.int .u64 (a : Nat), .int .u32 (n : Nat), .int .u16 (f : Nat), .int .u16 (x : Nat)] 44)).alloc (.cells #[.slice none 0 0] 28)) := three_new w u _ _ _ _ _

set_option maxHeartbeats 4000000 in
set_option maxRecDepth 100000 in
theorem setDesc_same (v : Value) (l : List UInt8) (b z i : Int) (a n f x : Nat) (F : Int) (x0 x1 x2 x3 : Nat) (hF : descF l.length b z i = F) (h0 : descX l b z i 0 8 = x0) (h1 : descX l b z i 8 4 = x1) (h2 : descX l b z i 12 2 = x2) (h3 : descX l b z i 14 2 = x3) (hc : F ≠ 0 ∨ (F = 0 ∧ decide (x0 = a ∧ x1 = n ∧ x2 = f ∧ x3 = x) = true)) (hl : l.length ≤ 140737488355328) (w : World) (hv : IsArg w v l) :
    Calls Try.prog 16 #[.agg #[v], .int .i64 b, .int .i64 z, .int .i64 i, .agg #[.int .u64 (a : Nat), .int .u32 (n : Nat), .int .u16 (f : Nat), .int .u16 (x : Nat)]] w (Wrote w v l l F) := by
  have HV := Lib.hid hv
  have HL := Lib.hid hl
  have HMX := Lib.hid (show l.length ≤ maxLen by unfold maxLen; omega)
  have HF := Lib.hid hF
  have H0 := Lib.hid h0
  have H1 := Lib.hid h1
  have H2 := Lib.hid h2
  have H3 := Lib.hid h3
  obtain ⟨va, vc, rfl, _⟩ := hv.shape
  obtain ⟨t1, t2, t3, t4⟩ := three_box w (.slice va l.length vc) a n f x
  have HB := Lib.hid t4
  have HM := Lib.hid t1
  have HD := Lib.hid t2
  have HR := Lib.hid t3
  obtain ⟨k, hk⟩ : ∃ k, k = w.heap.size + 1 := ⟨_, rfl⟩
  clear hv hl hF h0 h1 h2 h3 t1 t2 t3 t4 hk
  go_enter Try.func16, Try.ntmps16
  go_wp2_with fail
  refine (desc_any _ l b z i F x0 x1 x2 x3 HF.out H0.out H1.out H2.out H3.out HMX.out _ (HV.out.below HB.out)).mono ?_
  rintro e w1 ⟨rfl, hb⟩
  have hbx : Below w1.heap.size w1 (w1.alloc (.cells #[.int .u64 (x0 : Nat), .int .u32 (x1 : Nat), .int .u16 (x2 : Nat), .int .u16 (x3 : Nat)] 44)) := (Below.refl _ _).alloc (Nat.le_refl _) _
  replace HM := Lib.hid (row_keep (row_keep HM.out hb) hbx)
  replace HD := Lib.hid (row_keep (row_keep HD.out hb) hbx)
  replace HR := Lib.hid (row_keep (row_keep HR.out hb) hbx)
  replace HB := Lib.hid ((HB.out.trans (hb.mono HB.out.size)).trans (hbx.mono (HB.out.trans (hb.mono HB.out.size)).size))
  have ht := heap_alloc_new w1 (.cells #[.int .u64 (x0 : Nat), .int .u32 (x1 : Nat), .int .u16 (x2 : Nat), .int .u16 (x3 : Nat)] 44)
  obtain ⟨c0, _⟩ := one_cell HM.out
  obtain ⟨d0, _⟩ := at_cell HD.out 0 _ rfl
  obtain ⟨d1, _⟩ := at_cell HD.out 1 _ rfl
  obtain ⟨d2, _⟩ := at_cell HD.out 2 _ rfl
  obtain ⟨d3, _⟩ := at_cell HD.out 3 _ rfl
  obtain ⟨e0, _⟩ := at_cell ht 0 _ rfl
  obtain ⟨e1, _⟩ := at_cell ht 1 _ rfl
  obtain ⟨e2, _⟩ := at_cell ht 2 _ rfl
  obtain ⟨e3, _⟩ := at_cell ht 3 _ rfl
  have hlt : w.heap.size < w1.heap.size := by have h := (Array.getElem?_eq_some_iff.1 (row_keep (w := w1) (row_keep (w := w1) (show w1.heap[w.heap.size]? = some _ from row_keep (three_box w (.slice va l.length vc) a n f x).1 hb) (Below.refl _ _)) (Below.refl _ _))).1; exact h
  clear hb hbx ht
  rcases hc with hc | ⟨rfl, hc⟩
  · have hn0 : (F != 0) = true := by rw [bne_iff_ne]; exact hc
    clear hc
    go_wp2_with fail
    refine (ringSame_any _ l _ (HV.out.below HB.out) HL.out).mono ?_
    rintro e w2 ⟨r, rfl, hr, hb⟩
    have HR2 := Lib.hid (row_keep HR.out hb)
    have HB2 := Lib.hid (HB.out.trans (hb.mono HB.out.size))
    have HO := Lib.hid (ownsRow_base (base' := w.heap.size) hr HB.out.size)
    obtain ⟨ra, rc, rfl, _⟩ := (isArg_of_owns hr).shape
    obtain ⟨r0, f0⟩ := one_cell HR2.out
    clear hb hr c0 d0 d1 d2 d3 e0 e1 e2 e3
    go_wp2
    refine bodyPost_ret (v := .tuple #[.agg #[.slice ra l.length rc], .int .i64 F]) (by simp [results, Try.results16, go_sem, r0]) rfl ⟨ra, rc, rfl, .inr (owns_far HO.out HR2.out tneMU _), HB2.out.setCell (by simp; omega) _⟩
  · have hq := desc_eql x0 x1 x2 x3 a n f x true hc
    clear hc
    go_wp2_with fail
    refine (ringSame_any _ l _ (HV.out.below HB.out) HL.out).mono ?_
    rintro e w2 ⟨r, rfl, hr, hb⟩
    have HR2 := Lib.hid (row_keep HR.out hb)
    have HB2 := Lib.hid (HB.out.trans (hb.mono HB.out.size))
    have HO := Lib.hid (ownsRow_base (base' := w.heap.size) hr HB.out.size)
    obtain ⟨ra, rc, rfl, _⟩ := (isArg_of_owns hr).shape
    obtain ⟨r0, f0⟩ := one_cell HR2.out
    clear hb hr c0 d0 d1 d2 d3 e0 e1 e2 e3
    go_wp2
    refine bodyPost_ret (v := .tuple #[.agg #[.slice ra l.length rc], .int .i64 0]) (by simp [results, Try.results16, go_sem, r0]) rfl ⟨ra, rc, rfl, .inr (owns_far HO.out HR2.out tneMU _), HB2.out.setCell (by simp; omega) _⟩

set_option maxHeartbeats 4000000 in
set_option maxRecDepth 100000 in
theorem setDesc_in (v : Value) (l : List UInt8) (B N I p : Nat) (hok : RingOk l.length B N) (hI : I < N) (hp : B + 16 * I = p) (a n f x : Nat) (hn : n < 4294967296) (hf : f < 65536) (hx : x < 65536) (x0 x1 x2 x3 : Nat) (hF : descF l.length (B : Nat) (N : Nat) (I : Nat) = 0) (h0 : descX l (B : Nat) (N : Nat) (I : Nat) 0 8 = x0) (h1 : descX l (B : Nat) (N : Nat) (I : Nat) 8 4 = x1) (h2 : descX l (B : Nat) (N : Nat) (I : Nat) 12 2 = x2) (h3 : descX l (B : Nat) (N : Nat) (I : Nat) 14 2 = x3) (hc : decide (x0 = a ∧ x1 = n ∧ x2 = f ∧ x3 = x) = false) (w : World) (hv : IsArg w v l) :
    Calls Try.prog 16 #[.agg #[v], .int .i64 (B : Nat), .int .i64 (N : Nat), .int .i64 (I : Nat), .agg #[.int .u64 (a : Nat), .int .u32 (n : Nat), .int .u16 (f : Nat), .int .u16 (x : Nat)]] w (Wrote w v l (setD l p a n f x) 0) := by
  have hN := hok.right.le
  have hsz := sizeN_le N
  have hfit := hok.fits
  have hl := hok.few
  have hpl : p + 16 ≤ l.length := by omega
  have HV := Lib.hid hv
  have HL := Lib.hid hl
  have HMX := Lib.hid (show l.length ≤ maxLen by unfold maxLen; omega)
  have HF := Lib.hid hF
  have HQ := Lib.hid (show ((I : Nat) : Int) * 16 = ((16 * I : Nat) : Int) by omega)
  have HT := Lib.hid (show ((B : Nat) : Int) + ((16 * I : Nat) : Int) = (p : Nat) by omega)
  have HQ1 := Lib.hid (show -9223372036854775808 ≤ ((16 * I : Nat) : Int) ∧ ((16 * I : Nat) : Int) ≤ 9223372036854775807 by omega)
  have HT1 := Lib.hid (show -9223372036854775808 ≤ ((p : Nat) : Int) ∧ ((p : Nat) : Int) ≤ 9223372036854775807 by omega)
  have HPL := Lib.hid hpl
  have hq := desc_eql x0 x1 x2 x3 a n f x false hc
  have k1 : IntKind.u64.wrap ((n : Nat) : Int) = (n : Nat) := IntWalk.u64_in _ (by omega)
  have k2 : IntKind.u64.wrap ((f : Nat) : Int) = (f : Nat) := IntWalk.u64_in _ (by omega)
  have k3 : IntKind.u64.wrap ((x : Nat) : Int) = (x : Nat) := IntWalk.u64_in _ (by omega)
  have H0 := Lib.hid h0
  have H1 := Lib.hid h1
  have H2 := Lib.hid h2
  have H3 := Lib.hid h3
  obtain ⟨va, vc, rfl, _⟩ := hv.shape
  obtain ⟨t1, t2, t3, t4⟩ := three_box w (.slice va l.length vc) a n f x
  have HB := Lib.hid t4
  have HM := Lib.hid t1
  have HD := Lib.hid t2
  have HR := Lib.hid t3
  obtain ⟨k, hk⟩ : ∃ k, k = w.heap.size + 1 := ⟨_, rfl⟩
  clear hok hI hp hpl hsz hN hfit hn hf hx hc hv hl hF h0 h1 h2 h3 t1 t2 t3 t4 hk
  go_enter Try.func16, Try.ntmps16
  go_wp2_with fail
  refine (desc_any _ l (B : Nat) (N : Nat) (I : Nat) 0 x0 x1 x2 x3 HF.out H0.out H1.out H2.out H3.out HMX.out _ (HV.out.below HB.out)).mono ?_
  rintro e w1 ⟨rfl, hb⟩
  have hbx : Below w1.heap.size w1 (w1.alloc (.cells #[.int .u64 (x0 : Nat), .int .u32 (x1 : Nat), .int .u16 (x2 : Nat), .int .u16 (x3 : Nat)] 44)) := (Below.refl _ _).alloc (Nat.le_refl _) _
  replace HM := Lib.hid (row_keep (row_keep HM.out hb) hbx)
  replace HD := Lib.hid (row_keep (row_keep HD.out hb) hbx)
  replace HR := Lib.hid (row_keep (row_keep HR.out hb) hbx)
  replace HB := Lib.hid ((HB.out.trans (hb.mono HB.out.size)).trans (hbx.mono (HB.out.trans (hb.mono HB.out.size)).size))
  have ht := heap_alloc_new w1 (.cells #[.int .u64 (x0 : Nat), .int .u32 (x1 : Nat), .int .u16 (x2 : Nat), .int .u16 (x3 : Nat)] 44)
  obtain ⟨c0, _⟩ := one_cell HM.out
  obtain ⟨d0, _⟩ := at_cell HD.out 0 _ rfl
  obtain ⟨d1, _⟩ := at_cell HD.out 1 _ rfl
  obtain ⟨d2, _⟩ := at_cell HD.out 2 _ rfl
  obtain ⟨d3, _⟩ := at_cell HD.out 3 _ rfl
  obtain ⟨e0, _⟩ := at_cell ht 0 _ rfl
  obtain ⟨e1, _⟩ := at_cell ht 1 _ rfl
  obtain ⟨e2, _⟩ := at_cell ht 2 _ rfl
  obtain ⟨e3, _⟩ := at_cell ht 3 _ rfl
  have hlt : w.heap.size < w1.heap.size := by have h := (Array.getElem?_eq_some_iff.1 (row_keep (w := w1) (row_keep (w := w1) (show w1.heap[w.heap.size]? = some _ from row_keep (three_box w (.slice va l.length vc) a n f x).1 hb) (Below.refl _ _)) (Below.refl _ _))).1; exact h
  clear hb hbx ht
  go_wp2_with fail
  refine (descs_any _ _).mono ?_
  rintro e w2 ⟨ra, rb, rfl, hr, hb⟩
  replace HM := Lib.hid (row_keep HM.out hb)
  replace HD := Lib.hid (row_keep HD.out hb)
  replace HR := Lib.hid (row_keep HR.out hb)
  replace HB := Lib.hid (HB.out.trans (hb.mono HB.out.size))
  have HRA := Lib.hid hr
  clear hr hb hq c0 d0 d1 d2 d3 e0 e1 e2 e3
  go_wp2_with fail
  refine (row1_any ra rb _ 16 _ _ _ HQ.out HT.out HQ1.out HT1.out _ HRA.out).mono ?_
  rintro e w3 ⟨rfl, rfl⟩
  go_wp2_with fail
  refine (putter_any w.heap.size p _).mono ?_
  rintro e w4 ⟨ga, gb, rfl, hpa, hga, hgb, hb⟩
  have hgb2 : w.heap.size ≤ gb := Nat.le_trans HB.out.size hgb
  replace HM := Lib.hid (row_keep HM.out hb)
  replace HD := Lib.hid (row_keep HD.out hb)
  replace HR := Lib.hid (row_keep HR.out hb)
  replace HB := Lib.hid (HB.out.trans (hb.mono HB.out.size))
  have HW := Lib.hid (show WSt w ga gb w.heap.size (.slice va l.length vc) l p va vc l w4 from { out := HB.out, lob := hgb2, lom := Nat.le_refl _, mem := HM.out, put := hpa, giv := .inl ⟨rfl, rfl⟩, len := rfl })
  clear hpa hga hgb hb hgb2
  obtain ⟨d0, _⟩ := at_cell HD.out 0 _ rfl
  go_wp2_with fail
  refine (put_step HV.out HW.out 8 (p + 8) a (by omega) HL.out (by have := HPL.out; omega) (by decide) (by decide)).mono ?_
  rintro e w5 ⟨rfl, sa0, sc0, h1, h2⟩
  replace HD := Lib.hid (h2.row HD.out (by omega) (blocks_ne HW.out.put.2 HD.out tneDI))
  replace HR := Lib.hid (h2.row HR.out (by omega) (blocks_ne HW.out.put.2 HR.out tneMI))
  replace HW := Lib.hid h1
  clear h1 h2 d0
  obtain ⟨d1, _⟩ := at_cell HD.out 1 _ rfl
  go_wp2_with fail
  refine (put_step HV.out HW.out 4 (p + 12) n (by omega) HL.out (by have := HPL.out; omega) (by decide) (by decide)).mono ?_
  rintro e w6 ⟨rfl, sa1, sc1, h1, h2⟩
  replace HD := Lib.hid (h2.row HD.out (by omega) (blocks_ne HW.out.put.2 HD.out tneDI))
  replace HR := Lib.hid (h2.row HR.out (by omega) (blocks_ne HW.out.put.2 HR.out tneMI))
  replace HW := Lib.hid h1
  clear h1 h2 d1
  obtain ⟨d2, _⟩ := at_cell HD.out 2 _ rfl
  go_wp2_with fail
  refine (put_step HV.out HW.out 2 (p + 14) f (by omega) HL.out (by have := HPL.out; omega) (by decide) (by decide)).mono ?_
  rintro e w7 ⟨rfl, sa2, sc2, h1, h2⟩
  replace HD := Lib.hid (h2.row HD.out (by omega) (blocks_ne HW.out.put.2 HD.out tneDI))
  replace HR := Lib.hid (h2.row HR.out (by omega) (blocks_ne HW.out.put.2 HR.out tneMI))
  replace HW := Lib.hid h1
  clear h1 h2 d2
  obtain ⟨d3, _⟩ := at_cell HD.out 3 _ rfl
  go_wp2_with fail
  refine (put_step HV.out HW.out 2 (p + 16) x (by omega) HL.out (by have := HPL.out; omega) (by decide) (by decide)).mono ?_
  rintro e w8 ⟨rfl, sa3, sc3, h1, h2⟩
  replace HD := Lib.hid (h2.row HD.out (by omega) (blocks_ne HW.out.put.2 HD.out tneDI))
  replace HR := Lib.hid (h2.row HR.out (by omega) (blocks_ne HW.out.put.2 HR.out tneMI))
  replace HW := Lib.hid h1
  clear h1 h2 d3
  obtain ⟨c0, _⟩ := one_cell HW.out.mem
  obtain ⟨r0, f0⟩ := one_cell HR.out
  go_wp2
  refine bodyPost_ret (v := .tuple #[.agg #[.slice sa3 l.length sc3], .int .i64 0]) (by simp [results, Try.results16, go_sem, r0]) rfl ⟨sa3, sc3, rfl, HW.out.giv.far HR.out tneMU _, HW.out.out.setCell (by simp; omega) _⟩

theorem setD_self (l : List UInt8) (p : Nat) (h : p + 16 ≤ l.length) : setD l p (numAt l p 8) (numAt l (p + 8) 4) (numAt l (p + 12) 2) (numAt l (p + 14) 2) = l := by
  unfold setD
  rw [putAt_self (by omega), putAt_self (by omega), putAt_self (by omega), putAt_self (by omega)]
theorem setDesc_any (v : Value) (l : List UInt8) (b z i : Int) (a n f x : Nat) (hn : n < 4294967296) (hf : f < 65536) (hx : x < 65536) (F : Int) (G : List UInt8) (hF : descF l.length b z i = F) (hG : setX l b z i a n f x = G) (hl : l.length ≤ 140737488355328) (w : World) (hv : IsArg w v l) :
    Calls Try.prog 16 #[.agg #[v], .int .i64 b, .int .i64 z, .int .i64 i, .agg #[.int .u64 (a : Nat), .int .u32 (n : Nat), .int .u16 (f : Nat), .int .u16 (x : Nat)]] w (Wrote w v l G F) := by
  by_cases hz : F = 0
  · subst hz
    have hF2 := hF
    rcases desc_cases l.length b z i with ⟨_, h⟩ | ⟨_, _, h⟩ | ⟨B, N, I, rfl, rfl, rfl, hI, hok, h⟩
    · omega
    · omega
    · rw [setX, if_pos h, Int.toNat_natCast, Int.toNat_natCast] at hG
      have hpl : B + 16 * I + 16 ≤ l.length := by
        have h1 := hok.fits
        have h2 := sizeN_le N
        omega
      cases hc : decide (descX l (B : Nat) (N : Nat) (I : Nat) 0 8 = a ∧ descX l (B : Nat) (N : Nat) (I : Nat) 8 4 = n ∧ descX l (B : Nat) (N : Nat) (I : Nat) 12 2 = f ∧ descX l (B : Nat) (N : Nat) (I : Nat) 14 2 = x) with
      | true =>
        have h4 := of_decide_eq_true hc
        have h5 : ∀ o k, descX l (B : Nat) (N : Nat) (I : Nat) o k = numAt l (B + 16 * I + o) k := fun o k => by rw [descX, if_pos h, Int.toNat_natCast, Int.toNat_natCast]
        rw [h5, h5, h5, h5] at h4
        have h6 : l = G := by
          rw [← hG, ← h4.1, ← h4.2.1, ← h4.2.2.1, ← h4.2.2.2]
          exact (setD_self l (B + 16 * I) hpl).symm
        have h7 := setDesc_same v l (B : Nat) (N : Nat) (I : Nat) a n f x 0 _ _ _ _ hF2 rfl rfl rfl rfl (.inr ⟨rfl, hc⟩) hl w hv
        rw [← h6]
        exact h7
      | false =>
        have h7 := setDesc_in v l B N I _ hok hI rfl a n f x hn hf hx _ _ _ _ hF2 rfl rfl rfl rfl hc w hv
        rw [hG] at h7
        exact h7
  · rw [setX, if_neg (by rw [hF]; exact hz)] at hG
    subst hG
    exact setDesc_same v l b z i a n f x F _ _ _ _ hF rfl rfl rfl rfl (.inl hz) hl w hv
end Go.Proofs.Ytofeiheomnpggaa
