import Derived.OpenShut
import Derived.Deep.Matrix
import Derived.Deep.Slices
import Derived.Deep.Grids
import Derived.Test.YtnmekbbnglkmcaaGreatG04
/- What the examples of the law's package come to: true. -/
namespace Go.Proofs.YtnmekbbnglkmcaaGreat
open Go.RowKit Go.Lib

def hbs : List QB := [(150, 4, false), (160, 8, true)]
def hq0 : QQ := newQ 0 4
def hq1 : QQ := addQ hq0 hbs
def hq2 : QQ := relQ { hq1 with last := 1 } 0
theorem hq0_free : hq0.free = [0, 1, 2, 3] := by decide
theorem hq1_free : hq1.free = [2, 3] := by decide
theorem hq1_chains : hq1.chains = [⟨0, [0, 1], 8⟩] := rfl
theorem hok4 (k : List UInt8) (h : k.length = 200) : RingOk k.length 0 4 := ⟨by omega, .inr (.inr (.inl rfl)), by rw [h]; decide⟩
theorem hgood0 : GoodQ hq0 4 := newQ_good (.inr (.inr (.inl rfl))) (by decide)
theorem hgood1 : GoodQ hq1 4 := addQ_good hgood0 (by decide) (by decide) (by decide)
theorem hgood2 : GoodQ hq2 4 := relQ_good (hgood1.seen (by decide)) (by rw [show ({ hq1 with last := 1 } : QQ).chains = hq1.chains from rfl, hq1_chains]; decide)
theorem hq2_chains : hq2.chains = [] := by
  show hq1.chains.eraseIdx 0 = []
  rw [hq1_chains]
  rfl
theorem hq2_free : hq2.free.length = 4 := by rw [good_empty hgood2 hq2_chains, upN_length]
theorem hbs_in (k : List UInt8) (h : k.length = 200) : ∀ x ∈ hbs, InB k.length x := by
  rw [h]
  intro x hx
  simp [hbs] at hx
  rcases hx with rfl | rfl <;> exact ⟨by decide, by decide, by decide⟩
theorem hq0_len : hq0.free.length = 4 := by rw [hq0_free]; rfl
theorem hq1_len : hq1.free.length = 2 := by rw [hq1_free]; rfl
theorem hq1_clen : hq1.chains.length = 1 := by rw [hq1_chains]; rfl
theorem hq2_clen : hq2.chains.length = 0 := by rw [hq2_chains]; rfl
structure QHeads (l G1 G2 : List UInt8) : Prop where
  n0 : l.length = 200
  n1 : G1.length = 200
  n2 : G2.length = 200
  ch : Chained G1 0 [0, 1] hbs
  ix : numAt G1 (0 + 16 * 4 + 2) 2 = 1
  at0 : numAt G1 (0 + 16 * 4 + 4 + 2 * (0 % 4)) 2 = 0
  p1 : ∀ q2 x y E, PollSpec G2 0 4 hq1 q2 x y E → q2 = hq2 ∧ x = 0 ∧ y = 5 ∧ E = 0
  p2 : ∀ q2 x y E, PollSpec G2 0 4 hq2 q2 x y E → q2 = hq2 ∧ x = 0 ∧ y = 0 ∧ E = 7
  p3 : ∀ q2 x y E, PollSpec G2 0 4 hq0 q2 x y E → q2 = { hq0 with last := 1 } ∧ x = 0 ∧ y = 0 ∧ E = 80
theorem qheads_plain (l G1 G2 : List UInt8) (hl : l.length = 200) (h1 : addM l 0 4 hq0 hbs = G1) (h2 : returnD G1 0 4 0 0 5 = G2) : QHeads l G1 G2 := by
  have n1 : G1.length = 200 := by rw [← h1, addM_length (hok4 l hl) hgood0 (by decide), hl]
  have n2 : G2.length = 200 := by rw [← h2, returnD_length _ _ _ (hok4 G1 n1), n1]
  have hus : usedI G2 0 4 = 1 := by
    unfold usedI
    rw [← h2, returnD_index 0 0 5 (hok4 G1 n1)]
  have he := returnD_entry (l := G1) (B := 0) (N := 4) 0 0 0 5 rfl (by decide) (by decide) (hok4 G1 n1)
  rw [h2] at he
  have hll : (layK l 0 (hq0.free.take hbs.length) hbs hbs.length).length = 200 := by
    rw [layK_length (hok4 l hl) (fun d hd => hgood0.freeIn (List.mem_of_mem_take hd)) hbs.length (by decide), hl]
  have hav : hq0.avail = 0 := rfl
  have hfr : (hq0.free.getD 0 0).toNat = 0 := by decide
  refine ⟨hl, n1, n2, ?_, ?_, ?_, ?_, ?_, ?_⟩
  · have h := addM_chained (bs := hbs) (hok4 l hl) hgood0 (by decide) (hbs_in l hl)
    rw [h1] at h
    exact h
  · rw [← h1, addM, offerD_index _ _ (hok4 _ hll), hav]
  · rw [← h1, addM, hav, hfr, offerD_entry 0 0 0 rfl (by decide) (hok4 _ hll)]
  · intro q2 x y E h
    obtain ⟨e1, e2, e3, e4⟩ := poll_is_one (a := 0) (n := 5) h hq1_chains (by rw [hus]; rfl) (by decide) he.1 he.2 (by decide)
    exact ⟨e1, e2, e3, e4⟩
  · intro q2 x y E h
    exact poll_is_none h (by unfold aheadQ; rw [hus]; decide)
  · intro q2 x y E h
    obtain ⟨e1, e2, e3, e4⟩ := poll_is_far h (by unfold aheadQ; rw [hus]; decide)
    rw [hus] at e1
    exact ⟨e1, e2, e3, e4⟩
theorem run_zeros200 (W : World) : (Instr.makeSlice 24 (.int .i64 200) (.int .i64 200)).run Tryz.prog W = .ok (.slice (some ⟨W.heap.size, 0, none⟩) 200 200) (W.alloc (.cells (madeCells #[.int .u8 0] 200) 5)) := run_zerosK 200 (by decide) W
structure QueHeadsA where
  b0 : Bool
  b1 : Bool
  b2 : Bool
  b3 : Bool
  b4 : Bool
  b5 : Bool
  b6 : Bool
  b7 : Bool
  b8 : Bool
  b9 : Bool
  b10 : Bool
  b11 : Bool
  b12 : Bool
  s45 : Value
  s46 : Value
  s47 : Value
  s44 : Value
  s48 : Value
  s49 : Value
  s50 : Value
  s51 : Value
  s8 : Value
  s9 : Value
  s10 : Value
  s11 : Value

set_option maxHeartbeats 4000000 in
set_option maxRecDepth 100000 in
theorem heads_any (w : World) : Calls Tryz.prog 6 #[] w fun e w' => e = .returned (.bool true) ∧ Below w.heap.size w w' := by
  obtain ⟨l0, hl0⟩ : ∃ l : List UInt8, l = List.replicate 200 0 := ⟨_, rfl⟩
  have hn0 : l0.length = 200 := by rw [hl0]; simp
  obtain ⟨l1, hl1⟩ : ∃ l, zeroM l0 0 4 = l := ⟨_, rfl⟩
  have hn1 : l1.length = 200 := by rw [← hl1, zeroM_length (hok4 l0 hn0), hn0]
  obtain ⟨G1, hg1⟩ : ∃ G, addM l1 0 4 hq0 hbs = G := ⟨_, rfl⟩
  obtain ⟨G2, hg2⟩ : ∃ G, returnD G1 0 4 0 0 5 = G := ⟨_, rfl⟩
  have HF := Lib.hid (qheads_plain l1 G1 G2 hn1 hg1 hg2)
  have HN0 := Lib.hid hn0
  have HL1 := Lib.hid hl1
  have HG1 := Lib.hid hg1
  have HG2 := Lib.hid hg2
  have hzz := zerosK_own w 200 (by decide)
  rw [← hl0] at hzz
  have AM := Lib.hid hzz
  have BW := Lib.hid ((Below.refl w.heap.size w).alloc (Nat.le_refl _) (.cells (madeCells #[.int .u8 0] 200) 5))
  have hmk := run_zeros200
  clear hl0 hn0 hl1 hn1 hg1 hg2 hzz
  go_enter Tryz.func6, Tryz.ntmps6
  go_wp2_with fail
  refine (new_this _ l0 0 4 _ AM.out (hok4 _ HN0.out) 0 4 200 rfl rfl HN0.out).mono ?_
  rintro e w1 ⟨aa, ca, Fa, Ca, rfl, hm, hq, hb⟩
  clear hmk
  obtain ⟨fa, pfa, rfl⟩ := hq.freeLen hq0_len
  obtain ⟨xa, pxa, rfl⟩ := hq.chainLen (show hq0.chains.length = 0 from rfl)
  replace AM := Lib.hid (AM.out.below hb)
  replace BW := Lib.hid (BW.out.trans (hb.mono BW.out.size))
  have Aa := Lib.hid hm
  clear hm
  have Qa := Lib.hid hq
  clear hq
  clear hb
  rw [HL1.out] at Aa
  clear AM
  have hbx : Below (w1).heap.size (w1) ((w1).alloc (.cells #[.slice aa 200 ca] 26)) := (Below.refl _ _).alloc (Nat.le_refl _) _
  replace BW := Lib.hid (BW.out.trans (hbx.mono BW.out.size))
  replace Aa := Lib.hid (Aa.out.below hbx)
  replace Qa := Lib.hid (Qa.out.below hbx)
  have Rm := Lib.hid (heap_alloc_new (w1) (.cells #[.slice aa 200 ca] 26))
  clear hbx
  have hbx : Below ((w1).alloc (.cells #[.slice aa 200 ca] 26)).heap.size ((w1).alloc (.cells #[.slice aa 200 ca] 26)) (((w1).alloc (.cells #[.slice aa 200 ca] 26)).alloc (.cells #[.int .i64 0, .int .i64 4, .slice fa 4 pfa, .int .u16 0, .int .u16 0, .slice xa 0 pxa] 30)) := (Below.refl _ _).alloc (Nat.le_refl _) _
  replace BW := Lib.hid (BW.out.trans (hbx.mono BW.out.size))
  replace Aa := Lib.hid (Aa.out.below hbx)
  replace Qa := Lib.hid (Qa.out.below hbx)
  replace Rm := Lib.hid (row_keep Rm.out hbx)
  have Rq := Lib.hid (heap_alloc_new ((w1).alloc (.cells #[.slice aa 200 ca] 26)) (.cells #[.int .i64 0, .int .i64 4, .slice fa 4 pfa, .int .u16 0, .int .u16 0, .slice xa 0 pxa] 30))
  clear hbx
  have hsz : ((w1).alloc (.cells #[.slice aa 200 ca] 26)).heap.size = w1.heap.size + 1 := by simp
  rw [hsz] at Rq
  clear hsz
  obtain ⟨lRm0c1, zRm0c1⟩ := at_cell Rm.out 0 _ rfl
  clear zRm0c1
  obtain ⟨lRq0c2, zRq0c2⟩ := at_cell Rq.out 0 _ rfl
  clear zRq0c2
  obtain ⟨lRq1c3, zRq1c3⟩ := at_cell Rq.out 1 _ rfl
  clear zRq1c3
  obtain ⟨lRq2c4, zRq2c4⟩ := at_cell Rq.out 2 _ rfl
  clear zRq2c4
  obtain ⟨lRq3c5, zRq3c5⟩ := at_cell Rq.out 3 _ rfl
  clear zRq3c5
  obtain ⟨lRq4c6, zRq4c6⟩ := at_cell Rq.out 4 _ rfl
  clear zRq4c6
  obtain ⟨lRq5c7, zRq5c7⟩ := at_cell Rq.out 5 _ rfl
  clear zRq5c7
  have hbx : Below (((w1).alloc (.cells #[.slice aa 200 ca] 26)).alloc (.cells #[.int .i64 0, .int .i64 4, .slice fa 4 pfa, .int .u16 0, .int .u16 0, .slice xa 0 pxa] 30)).heap.size (((w1).alloc (.cells #[.slice aa 200 ca] 26)).alloc (.cells #[.int .i64 0, .int .i64 4, .slice fa 4 pfa, .int .u16 0, .int .u16 0, .slice xa 0 pxa] 30)) ((((w1).alloc (.cells #[.slice aa 200 ca] 26)).alloc (.cells #[.int .i64 0, .int .i64 4, .slice fa 4 pfa, .int .u16 0, .int .u16 0, .slice xa 0 pxa] 30)).alloc (.cells #[.int .i64 150, .int .i64 4, .bool false, .int .i64 160, .int .i64 8, .bool true] 39)) := (Below.refl _ _).alloc (Nat.le_refl _) _
  replace BW := Lib.hid (BW.out.trans (hbx.mono BW.out.size))
  replace Aa := Lib.hid (Aa.out.below hbx)
  replace Qa := Lib.hid (Qa.out.below hbx)
  replace Rm := Lib.hid (row_keep Rm.out hbx)
  replace Rq := Lib.hid (row_keep Rq.out hbx)
  have hpr := buf_rows (((w1).alloc (.cells #[.slice aa 200 ca] 26)).alloc (.cells #[.int .i64 0, .int .i64 4, .slice fa 4 pfa, .int .u16 0, .int .u16 0, .slice xa 0 pxa] 30)) 150 4 false 160 8 true
  have hsz : (((w1).alloc (.cells #[.slice aa 200 ca] 26)).alloc (.cells #[.int .i64 0, .int .i64 4, .slice fa 4 pfa, .int .u16 0, .int .u16 0, .slice xa 0 pxa] 30)).heap.size = w1.heap.size + 1 + 1 := by simp
  rw [hsz] at hpr
  have BF := Lib.hid hpr
  clear hbx hsz hpr
  go_wp2_with fail
  refine (add_this hq0 4 0 _ _ _ _ [] l1 hbs _ Aa.out Qa.out BF.out hgood0 rfl (hok4 _ HF.out.n0) (by decide) (by decide) (by decide) (hbs_in _ HF.out.n0) 0 4 0 0 1 0 200 rfl rfl rfl rfl rfl (by decide) HF.out.n0).mono ?_
  rintro e w2 ⟨ab, cb, Fb, Cb, Db, rfl, hm, hq, hb⟩
  obtain ⟨fb, pfb, rfl⟩ := hq.freeLen hq1_len
  obtain ⟨xb, pxb, rfl⟩ := hq.chainLen hq1_clen
  clear lRm0c1 lRq0c2 lRq1c3 lRq2c4 lRq3c5 lRq4c6 lRq5c7
  replace BW := Lib.hid (BW.out.trans (hb.mono BW.out.size))
  replace Aa := Lib.hid (Aa.out.below hb)
  replace Qa := Lib.hid (Qa.out.below hb)
  replace Rm := Lib.hid (row_keep Rm.out hb)
  replace Rq := Lib.hid (row_keep Rq.out hb)
  replace BF := Lib.hid (BF.out.below hb)
  have Ab := Lib.hid hm
  clear hm
  have Qb := Lib.hid hq
  clear hq
  clear hb
  rw [HG1.out] at Ab
  clear BF Aa
  have hbx : Below (w2).heap.size (w2) ((w2).alloc (.cells #[.slice ab 200 cb] 26)) := (Below.refl _ _).alloc (Nat.le_refl _) _
  replace BW := Lib.hid (BW.out.trans (hbx.mono BW.out.size))
  replace Qa := Lib.hid (Qa.out.below hbx)
  replace Rm := Lib.hid (row_keep Rm.out hbx)
  replace Rq := Lib.hid (row_keep Rq.out hbx)
  replace Ab := Lib.hid (Ab.out.below hbx)
  replace Qb := Lib.hid (Qb.out.below hbx)
  have Rd := Lib.hid (heap_alloc_new (w2) (.cells #[.slice ab 200 cb] 26))
  clear hbx
  have hbx : Below ((w2).alloc (.cells #[.slice ab 200 cb] 26)).heap.size ((w2).alloc (.cells #[.slice ab 200 cb] 26)) (((w2).alloc (.cells #[.slice ab 200 cb] 26)).alloc (.cells #[.int .i64 0, .int .i64 4, .slice fb 2 pfb, .int .u16 1, .int .u16 0, .slice xb 1 pxb] 30)) := (Below.refl _ _).alloc (Nat.le_refl _) _
  replace BW := Lib.hid (BW.out.trans (hbx.mono BW.out.size))
  replace Qa := Lib.hid (Qa.out.below hbx)
  replace Rm := Lib.hid (row_keep Rm.out hbx)
  replace Rq := Lib.hid (row_keep Rq.out hbx)
  replace Ab := Lib.hid (Ab.out.below hbx)
  replace Qb := Lib.hid (Qb.out.below hbx)
  replace Rd := Lib.hid (row_keep Rd.out hbx)
  have Re := Lib.hid (heap_alloc_new ((w2).alloc (.cells #[.slice ab 200 cb] 26)) (.cells #[.int .i64 0, .int .i64 4, .slice fb 2 pfb, .int .u16 1, .int .u16 0, .slice xb 1 pxb] 30))
  clear hbx
  have hsz : ((w2).alloc (.cells #[.slice ab 200 cb] 26)).heap.size = w2.heap.size + 1 := by simp
  rw [hsz] at Re
  clear hsz
  go_wp2_with fail
  obtain ⟨wd, hwd⟩ : ∃ x, x = ((w2).alloc (.cells #[.slice ab 200 cb] 26)).alloc (.cells #[.int .i64 0, .int .i64 4, .slice fb 2 pfb, .int .u16 1, .int .u16 0, .slice xb 1 pxb] 30) := ⟨_, rfl⟩
  rw [← hwd] at BW Qa Rm Rq Ab Qb Rd Re ⊢
  clear hwd
  have HDW := Lib.hid (show w.heap.size ≤ wd.heap.size from BW.out.size)
  have HNX := Lib.hid (show ∀ W, Below wd.heap.size wd W → Calls Tryz.prog 11 #[.agg #[.slice ab 200 cb], .agg #[.int .i64 0, .int .i64 4, .int .u16 0, .int .u16 0]] W fun e w' => ∃ ra rc, e = .returned (.tuple #[.agg #[.int .i64 0, .int .i64 4, .int .u16 1, .int .u16 0], .int .i64 0, .slice ra 2 rc, .int .i64 0]) ∧ OwnBf 0 w' (.slice ra 2 rc) hbs ∧ Below W.heap.size W w' from fun W hb => next_this 4 0 0 0 1 0 _ G1 [0, 1] hbs W (Ab.out.below hb) (hok4 _ HF.out.n1) HF.out.ch (by decide) rfl (by decide) (by decide) (hbs_in _ HF.out.n1) rfl (by decide) HF.out.ix (by decide) HF.out.at0 0 4 0 0 1 0 2 rfl rfl rfl rfl rfl rfl rfl)
  refine wp_region_rec (X := QueHeadsA) (by kernel_rfl) (by kernel_rfl) (fun x => #[x.b0, x.b1, x.b2, x.b3, x.b4, x.b5, x.b6, x.b7, x.b8, x.b9, x.b10, x.b11, x.b12]) (fun x => { tmps := List.toArray ((.bool false) :: (.pointer (some ⟨w1.heap.size, 0, none⟩)) :: (.pointer (some ⟨w1.heap.size + 1, 0, none⟩)) :: (.int .i64 0) :: (.pointer (some ⟨w2.heap.size, 0, none⟩)) :: (.pointer (some ⟨w2.heap.size + 1, 0, none⟩)) :: (.int .i64 0) :: (.int .i64 0) :: x.s8 :: x.s9 :: x.s10 :: x.s11 :: undef :: undef :: undef :: undef :: undef :: undef :: undef :: undef :: undef :: undef :: undef :: undef :: undef :: undef :: (.tuple #[.agg #[.slice aa 200 ca], .agg #[.int .i64 0, .int .i64 4, .slice fa 4 pfa, .int .u16 0, .int .u16 0, .slice xa 0 pxa], .int .i64 0]) :: (.slice (some ⟨w.heap.size, 0, none⟩) 200 200) :: (.agg #[.slice (some ⟨w.heap.size, 0, none⟩) 200 200]) :: (.tuple #[.agg #[.slice aa 200 ca], .agg #[.int .i64 0, .int .i64 4, .slice fa 4 pfa, .int .u16 0, .int .u16 0, .slice xa 0 pxa], .int .i64 0]) :: (.agg #[.slice aa 200 ca]) :: (.agg #[.int .i64 0, .int .i64 4, .slice fa 4 pfa, .int .u16 0, .int .u16 0, .slice xa 0 pxa]) :: (.int .i64 0) :: (.tuple #[.agg #[.slice ab 200 cb], .agg #[.int .i64 0, .int .i64 4, .slice fb 2 pfb, .int .u16 1, .int .u16 0, .slice xb 1 pxb], .int .i64 0, .int .i64 0]) :: (.agg #[.slice aa 200 ca]) :: (.agg #[.int .i64 0, .int .i64 4, .slice fa 4 pfa, .int .u16 0, .int .u16 0, .slice xa 0 pxa]) :: (.agg #[.int .i64 150, .int .i64 4, .bool false]) :: (.agg #[.int .i64 160, .int .i64 8, .bool true]) :: (.slice (some ⟨w1.heap.size + 1 + 1, 0, none⟩) 2 2) :: (.tuple #[.agg #[.slice ab 200 cb], .agg #[.int .i64 0, .int .i64 4, .slice fb 2 pfb, .int .u16 1, .int .u16 0, .slice xb 1 pxb], .int .i64 0, .int .i64 0]) :: (.agg #[.slice ab 200 cb]) :: (.agg #[.int .i64 0, .int .i64 4, .slice fb 2 pfb, .int .u16 1, .int .u16 0, .slice xb 1 pxb]) :: (.int .i64 0) :: (.int .i64 0) :: x.s44 :: x.s45 :: x.s46 :: x.s47 :: x.s48 :: x.s49 :: x.s50 :: x.s51 :: undef :: undef :: undef :: undef :: undef :: undef :: undef :: undef :: undef :: undef :: undef :: undef :: undef :: undef :: undef :: undef :: undef :: undef :: undef :: undef :: undef :: undef :: undef :: undef :: undef :: undef :: undef :: undef :: undef :: undef :: undef :: undef :: undef :: undef :: undef :: undef :: undef :: undef :: undef :: undef :: undef :: undef :: undef :: undef :: undef :: undef :: undef :: undef :: undef :: undef :: undef :: undef :: undef :: undef :: undef :: undef :: undef :: undef :: undef :: undef :: undef :: undef :: undef :: undef :: undef :: undef :: undef :: undef :: undef :: undef :: undef :: undef :: undef :: undef :: undef :: undef :: undef :: undef :: undef :: undef :: undef :: undef :: undef :: undef :: undef :: undef :: undef :: undef :: undef :: undef :: undef :: undef :: undef :: undef :: undef :: undef :: undef :: undef :: undef :: undef :: undef :: undef :: undef :: undef :: undef :: undef :: []), defers := [] }) (fun x W => (x.b0 = true → x.s45 = .agg #[.slice ab 200 cb]) ∧ (x.b1 = true → x.s46 = .agg #[.int .i64 0, .int .i64 4, .int .u16 0, .int .u16 0]) ∧ (x.b3 = true → x.s44 = x.s47) ∧ (x.b4 = true → x.s48 = .agg #[.int .i64 0, .int .i64 4, .int .u16 1, .int .u16 0]) ∧ (x.b5 = true → x.s49 = .int .i64 0) ∧ (x.b7 = true → x.s51 = .int .i64 0) ∧ (x.b10 = true → x.s9 = .int .i64 0) ∧ (x.b11 = true → x.s10 = x.s50) ∧ (x.b12 = true → x.s11 = .int .i64 0) ∧ (x.b3 = true → x.b1 = true ∧ x.b2 = true) ∧ (x.b11 = true → x.b6 = true) ∧ (x.b2 = true → x.b1 = true) ∧ (x.b6 = true → x.b1 = true ∧ x.b2 = true) ∧ (x.b9 = true → x.b1 = true ∧ x.b2 = true ∧ x.b8 = true) ∧ (W.heap[w2.heap.size]? = some (.cells #[.slice ab 200 cb] 26 (0, 0))) ∧ (Below wd.heap.size wd W) ∧ (x.b2 = true → ∃ ra rc, x.s47 = .tuple #[.agg #[.int .i64 0, .int .i64 4, .int .u16 1, .int .u16 0], .int .i64 0, .slice ra 2 rc, .int .i64 0] ∧ OwnBf 0 W (.slice ra 2 rc) hbs) ∧ (x.b6 = true → ∃ ra rc, x.s50 = .slice ra 2 rc ∧ OwnBf 0 W (.slice ra 2 rc) hbs) ∧ (x.b9 = false → x.b8 = true → ∃ gu, x.s8 = .pointer (some ⟨gu, 0, none⟩) ∧ wd.heap.size ≤ gu ∧ W.heap[gu]? = some (.cells #[.int .i64 0, .int .i64 0, .int .u16 0, .int .u16 0] 35 (0, 0))) ∧ (x.b9 = true → ∃ gu, x.s8 = .pointer (some ⟨gu, 0, none⟩) ∧ wd.heap.size ≤ gu ∧ W.heap[gu]? = some (.cells #[.int .i64 0, .int .i64 4, .int .u16 1, .int .u16 0] 35 (0, 0)))) ⟨false, false, false, false, false, false, false, false, false, false, false, false, false, undef, undef, undef, undef, undef, undef, undef, undef, undef, undef, undef, undef⟩ rfl rfl ⟨(fun h => by cases h), (fun h => by cases h), (fun h => by cases h), (fun h => by cases h), (fun h => by cases h), (fun h => by cases h), (fun h => by cases h), (fun h => by cases h), (fun h => by cases h), (fun h => by cases h), (fun h => by cases h), (fun h => by cases h), (fun h => by cases h), (fun h => by cases h), Rd.out, (Below.refl _ _).drew, (fun h => by cases h), (fun h => by cases h), (fun _ h => by cases h), (fun h => by cases h)⟩ (fun _ => rfl) ?hstep ?hdone
  case hstep =>
    rintro ⟨b0, b1, b2, b3, b4, b5, b6, b7, b8, b9, b10, b11, b12, s45, s46, s47, s44, s48, s49, s50, s51, s8, s9, s10, s11⟩ W hI i hi
    dsimp only at hI hi ⊢
    have HI := Lib.hid hI
    clear hI
    rw [Region.ready, List.mem_filter, List.mem_range] at hi
    obtain ⟨hlt, hp⟩ := hi
    have hi7 : i = 0 ∨ i = 1 ∨ i = 2 ∨ i = 3 ∨ i = 4 ∨ i = 5 ∨ i = 6 ∨ i = 7 ∨ i = 8 ∨ i = 9 ∨ i = 10 ∨ i = 11 ∨ i = 12 := by simp at hlt; omega
    clear hlt
    rcases hi7 with rfl | rfl | rfl | rfl | rfl | rfl | rfl | rfl | rfl | rfl | rfl | rfl | rfl
    all_goals simp [Region.binds] at hp
    · have hn0 : b0 = false := by revert hp; cases b0 <;> simp
      clear hp
      subst hn0
      refine inv_op (o := ⟨some 45, _, _, _, _, _⟩) rfl (fun K' hK' => ?_)
      have rD := HI.out.2.2.2.2.2.2.2.2.2.2.2.2.2.2.1
      obtain ⟨hc0, _⟩ := at_cell rD 0 _ rfl
      go_simp
      obtain ⟨h0, h1, h3, h4, h5, h7, h10, h11, h12, gi3, gi11, gi2, gi6, gi9, rD, gB, gP, gX, gA, gS⟩ := HI.out
      exact hK'.out _ _ ⟨⟨true, b1, b2, b3, b4, b5, b6, b7, b8, b9, b10, b11, b12, _, s46, s47, s44, s48, s49, s50, s51, s8, s9, s10, s11⟩, rfl, rfl, (fun _ => rfl), h1, h3, h4, h5, h7, h10, h11, h12, gi3, gi11, gi2, gi6, gi9, rD, gB, gP, gX, gA, gS⟩
    · have hn1 : b1 = false := by revert hp; cases b1 <;> simp
      clear hp
      subst hn1
      refine inv_op (o := ⟨some 46, _, _, _, _, _⟩) rfl (fun K' hK' => ?_)
      have gi3 := HI.out.2.2.2.2.2.2.2.2.2.1
      have gi2 := HI.out.2.2.2.2.2.2.2.2.2.2.2.1
      have gi6 := HI.out.2.2.2.2.2.2.2.2.2.2.2.2.1
      have gi9 := HI.out.2.2.2.2.2.2.2.2.2.2.2.2.2.1
      have hbf3 : b3 = false := by cases b3 with | false => rfl | true => exact absurd ((gi3 rfl).1) (by decide)
      subst hbf3
      have hbf2 : b2 = false := by cases b2 with | false => rfl | true => exact absurd ((gi2 rfl)) (by decide)
      subst hbf2
      have hbf6 : b6 = false := by cases b6 with | false => rfl | true => exact absurd ((gi6 rfl).1) (by decide)
      subst hbf6
      have hbf9 : b9 = false := by cases b9 with | false => rfl | true => exact absurd ((gi9 rfl).1) (by decide)
      subst hbf9
      go_simp
      refine (serve_this 0 4 W).mono ?_
      rintro e w2 ⟨rfl, bn⟩
      obtain ⟨h0, h1, h3, h4, h5, h7, h10, h11, h12, gi3, gi11, gi2, gi6, gi9, rD, gB, gP, gX, gA, gS⟩ := HI.out
      exact hK'.out _ _ ⟨⟨b0, true, false, false, b4, b5, false, b7, b8, false, b10, b11, b12, s45, _, s47, s44, s48, s49, s50, s51, s8, s9, s10, s11⟩, rfl, rfl, h0, (fun _ => rfl), h3, h4, h5, h7, h10, h11, h12, (fun e => by cases e), gi11, (fun e => by cases e), (fun e => by cases e), (fun e => by cases e), (row_keep rD bn), (gB.trans (bn.mono gB.size)), (fun e => by cases e), (fun e => by cases e), (fun e e2 => by obtain ⟨gu, h1, h2, h3⟩ := gA e e2; exact ⟨gu, h1, h2, row_keep h3 bn⟩), (fun e => by cases e)⟩
    · have hn2 : b2 = false := by revert hp; cases b2 <;> simp
      have e0 : b0 = true := by revert hp; cases b0 <;> simp
      have e1 : b1 = true := by revert hp; cases b1 <;> simp
      clear hp
      obtain rfl := (HI.out.1) e0
      obtain rfl := (HI.out.2.1) e1
      subst hn2
      refine inv_op (o := ⟨some 47, _, _, _, _, _⟩) rfl (fun K' hK' => ?_)
      have gi3 := HI.out.2.2.2.2.2.2.2.2.2.1
      have gi6 := HI.out.2.2.2.2.2.2.2.2.2.2.2.2.1
      have gi9 := HI.out.2.2.2.2.2.2.2.2.2.2.2.2.2.1
      have gB := HI.out.2.2.2.2.2.2.2.2.2.2.2.2.2.2.2.1
      have hbf3 : b3 = false := by cases b3 with | false => rfl | true => exact absurd ((gi3 rfl).2) (by decide)
      subst hbf3
      have hbf6 : b6 = false := by cases b6 with | false => rfl | true => exact absurd ((gi6 rfl).2) (by decide)
      subst hbf6
      have hbf9 : b9 = false := by cases b9 with | false => rfl | true => exact absurd ((gi9 rfl).2.1) (by decide)
      subst hbf9
      go_simp
      refine (HNX.out W gB).mono ?_
      rintro e w2 ⟨ra, rc, rfl, hr, bn⟩
      obtain ⟨h0, h1, h3, h4, h5, h7, h10, h11, h12, gi3, gi11, gi2, gi6, gi9, rD, gB, gP, gX, gA, gS⟩ := HI.out
      exact hK'.out _ _ ⟨⟨b0, b1, true, false, b4, b5, false, b7, b8, false, b10, b11, b12, _, _, _, s44, s48, s49, s50, s51, s8, s9, s10, s11⟩, rfl, rfl, h0, h1, (fun e => by cases ((gi3 e).2)), h4, h5, h7, h10, h11, h12, (fun e => by cases e), gi11, (fun _ => e1), (fun e => by cases e), (fun e => by cases e), (row_keep rD bn), (gB.trans (bn.mono gB.size)), (fun _ => ⟨ra, rc, rfl, hr⟩), (fun e => by cases e), (fun e e2 => by obtain ⟨gu, h1, h2, h3⟩ := gA e e2; exact ⟨gu, h1, h2, row_keep h3 bn⟩), (fun e => by cases e)⟩
    · have hn3 : b3 = false := by revert hp; cases b3 <;> simp
      have e2 : b2 = true := by revert hp; cases b2 <;> simp
      clear hp
      subst hn3
      refine inv_op (o := ⟨some 44, _, _, _, _, _⟩) rfl (fun K' hK' => ?_)
      go_simp
      obtain ⟨h0, h1, h3, h4, h5, h7, h10, h11, h12, gi3, gi11, gi2, gi6, gi9, rD, gB, gP, gX, gA, gS⟩ := HI.out
      exact hK'.out _ _ ⟨⟨b0, b1, b2, true, b4, b5, b6, b7, b8, b9, b10, b11, b12, s45, s46, _, _, s48, s49, s50, s51, s8, s9, s10, s11⟩, rfl, rfl, h0, h1, (fun _ => rfl), h4, h5, h7, h10, h11, h12, (fun _ => ⟨(gi2 e2), e2⟩), gi11, gi2, gi6, gi9, rD, gB, gP, gX, gA, gS⟩
    · have hn4 : b4 = false := by revert hp; cases b4 <;> simp
      have e3 : b3 = true := by revert hp; cases b3 <;> simp
      clear hp
      obtain rfl := (HI.out.2.2.1) e3
      subst hn4
      refine inv_op (o := ⟨some 48, _, _, _, _, _⟩) rfl (fun K' hK' => ?_)
      have gi3 := HI.out.2.2.2.2.2.2.2.2.2.1
      have gP := HI.out.2.2.2.2.2.2.2.2.2.2.2.2.2.2.2.2.1
      obtain ⟨ra, rc, rfl, hp⟩ := gP ((gi3 e3).2)
      go_simp
      obtain ⟨h0, h1, h3, h4, h5, h7, h10, h11, h12, gi3, gi11, gi2, gi6, gi9, rD, gB, gP, gX, gA, gS⟩ := HI.out
      exact hK'.out _ _ ⟨⟨b0, b1, b2, b3, true, b5, b6, b7, b8, b9, b10, b11, b12, s45, s46, _, _, _, s49, s50, s51, s8, s9, s10, s11⟩, rfl, rfl, h0, h1, h3, (fun _ => rfl), h5, h7, h10, h11, h12, gi3, gi11, gi2, gi6, gi9, rD, gB, (fun _ => ⟨ra, rc, rfl, hp⟩), gX, gA, gS⟩
    · have hn5 : b5 = false := by revert hp; cases b5 <;> simp
      have e3 : b3 = true := by revert hp; cases b3 <;> simp
      clear hp
      obtain rfl := (HI.out.2.2.1) e3
      subst hn5
      refine inv_op (o := ⟨some 49, _, _, _, _, _⟩) rfl (fun K' hK' => ?_)
      have gi3 := HI.out.2.2.2.2.2.2.2.2.2.1
      have gP := HI.out.2.2.2.2.2.2.2.2.2.2.2.2.2.2.2.2.1
      obtain ⟨ra, rc, rfl, hp⟩ := gP ((gi3 e3).2)
      go_simp
      obtain ⟨h0, h1, h3, h4, h5, h7, h10, h11, h12, gi3, gi11, gi2, gi6, gi9, rD, gB, gP, gX, gA, gS⟩ := HI.out
      exact hK'.out _ _ ⟨⟨b0, b1, b2, b3, b4, true, b6, b7, b8, b9, b10, b11, b12, s45, s46, _, _, s48, _, s50, s51, s8, s9, s10, s11⟩, rfl, rfl, h0, h1, h3, h4, (fun _ => rfl), h7, h10, h11, h12, gi3, gi11, gi2, gi6, gi9, rD, gB, (fun _ => ⟨ra, rc, rfl, hp⟩), gX, gA, gS⟩
    · have hn6 : b6 = false := by revert hp; cases b6 <;> simp
      have e3 : b3 = true := by revert hp; cases b3 <;> simp
      clear hp
      obtain rfl := (HI.out.2.2.1) e3
      subst hn6
      refine inv_op (o := ⟨some 50, _, _, _, _, _⟩) rfl (fun K' hK' => ?_)
      have gi3 := HI.out.2.2.2.2.2.2.2.2.2.1
      have gi11 := HI.out.2.2.2.2.2.2.2.2.2.2.1
      have gP := HI.out.2.2.2.2.2.2.2.2.2.2.2.2.2.2.2.2.1
      have hbf11 : b11 = false := by cases b11 with | false => rfl | true => exact absurd ((gi11 rfl)) (by decide)
      subst hbf11
      obtain ⟨ra, rc, rfl, hp⟩ := gP ((gi3 e3).2)
      go_simp
      obtain ⟨h0, h1, h3, h4, h5, h7, h10, h11, h12, gi3, gi11, gi2, gi6, gi9, rD, gB, gP, gX, gA, gS⟩ := HI.out
      exact hK'.out _ _ ⟨⟨b0, b1, b2, b3, b4, b5, true, b7, b8, b9, b10, false, b12, s45, s46, _, _, s48, s49, _, s51, s8, s9, s10, s11⟩, rfl, rfl, h0, h1, h3, h4, h5, h7, h10, (fun e => by cases ((gi11 e))), h12, gi3, (fun e => by cases e), gi2, (fun _ => ⟨(gi3 e3).1, (gi3 e3).2⟩), gi9, rD, gB, (fun _ => ⟨ra, rc, rfl, hp⟩), (fun _ => ⟨ra, rc, rfl, hp⟩), gA, gS⟩
    · have hn7 : b7 = false := by revert hp; cases b7 <;> simp
      have e3 : b3 = true := by revert hp; cases b3 <;> simp
      clear hp
      obtain rfl := (HI.out.2.2.1) e3
      subst hn7
      refine inv_op (o := ⟨some 51, _, _, _, _, _⟩) rfl (fun K' hK' => ?_)
      have gi3 := HI.out.2.2.2.2.2.2.2.2.2.1
      have gP := HI.out.2.2.2.2.2.2.2.2.2.2.2.2.2.2.2.2.1
      obtain ⟨ra, rc, rfl, hp⟩ := gP ((gi3 e3).2)
      go_simp
      obtain ⟨h0, h1, h3, h4, h5, h7, h10, h11, h12, gi3, gi11, gi2, gi6, gi9, rD, gB, gP, gX, gA, gS⟩ := HI.out
      exact hK'.out _ _ ⟨⟨b0, b1, b2, b3, b4, b5, b6, true, b8, b9, b10, b11, b12, s45, s46, _, _, s48, s49, s50, _, s8, s9, s10, s11⟩, rfl, rfl, h0, h1, h3, h4, h5, (fun _ => rfl), h10, h11, h12, gi3, gi11, gi2, gi6, gi9, rD, gB, (fun _ => ⟨ra, rc, rfl, hp⟩), gX, gA, gS⟩
    · have hn8 : b8 = false := by revert hp; cases b8 <;> simp
      clear hp
      subst hn8
      refine inv_op (o := ⟨some 8, _, _, _, _, _⟩) rfl (fun K' hK' => ?_)
      have gi9 := HI.out.2.2.2.2.2.2.2.2.2.2.2.2.2.1
      have hbf9 : b9 = false := by cases b9 with | false => rfl | true => exact absurd ((gi9 rfl).2.2) (by decide)
      subst hbf9
      have bn : Below W.heap.size W (W.alloc (.cells #[.int .i64 0, .int .i64 0, .int .u16 0, .int .u16 0] 35)) := (Below.refl _ _).alloc (Nat.le_refl _) _
      have hn := heap_alloc_new W (.cells #[.int .i64 0, .int .i64 0, .int .u16 0, .int .u16 0] 35)
      go_simp
      obtain ⟨h0, h1, h3, h4, h5, h7, h10, h11, h12, gi3, gi11, gi2, gi6, gi9, rD, gB, gP, gX, gA, gS⟩ := HI.out
      exact hK'.out _ _ ⟨⟨b0, b1, b2, b3, b4, b5, b6, b7, true, false, b10, b11, b12, s45, s46, s47, s44, s48, s49, s50, s51, _, s9, s10, s11⟩, rfl, rfl, h0, h1, h3, h4, h5, h7, h10, h11, h12, gi3, gi11, gi2, gi6, (fun e => by cases e), (row_keep rD bn), (gB.trans (bn.mono gB.size)), (fun e => by obtain ⟨y0, y1, h1, h2⟩ := gP e; exact ⟨y0, y1, h1, h2.below bn⟩), (fun e => by obtain ⟨y0, y1, h1, h2⟩ := gX e; exact ⟨y0, y1, h1, h2.below bn⟩), (fun _ _ => ⟨_, rfl, gB.size, hn⟩), (fun e => by cases e)⟩
    · have hn9 : b9 = false := by revert hp; cases b9 <;> simp
      have e4 : b4 = true := by revert hp; cases b4 <;> simp
      have e8 : b8 = true := by revert hp; cases b8 <;> simp
      have e2 : b2 = true := by revert hp; cases b2 <;> simp
      have e1 : b1 = true := by revert hp; cases b1 <;> simp
      clear hp
      obtain rfl := (HI.out.2.2.2.1) e4
      subst hn9
      refine inv_op (o := ⟨none, _, _, _, _, _⟩) rfl (fun K' hK' => ?_)
      have gA := HI.out.2.2.2.2.2.2.2.2.2.2.2.2.2.2.2.2.2.2.1
      obtain ⟨gu, rfl, hlo, hrow⟩ := gA rfl e8
      obtain ⟨⟨hc0, hc1, hc2, hc3⟩, hz0, hz1, hz2, hz3⟩ := cells_four hrow
      have hlx := (Array.getElem?_eq_some_iff.1 hrow).1
      go_simp
      obtain ⟨h0, h1, h3, h4, h5, h7, h10, h11, h12, gi3, gi11, gi2, gi6, gi9, rD, gB, gP, gX, gA, gS⟩ := HI.out
      exact hK'.out _ _ ⟨⟨b0, b1, b2, b3, b4, b5, b6, b7, b8, true, b10, b11, b12, s45, s46, s47, s44, _, s49, s50, s51, _, s9, s10, s11⟩, rfl, rfl, h0, h1, h3, h4, h5, h7, h10, h11, h12, gi3, gi11, gi2, gi6, (fun _ => ⟨e1, e2, e8⟩), (one_other (one_other (one_other (one_other rD _ _ (blocks_ne rD hrow (by decide))) _ _ (blocks_ne rD hrow (by decide))) _ _ (blocks_ne rD hrow (by decide))) _ _ (blocks_ne rD hrow (by decide))), ((((gB.setCell (p := ⟨gu, 0, none⟩) hlo _).setCell (p := ⟨gu, 1, none⟩) hlo _).setCell (p := ⟨gu, 2, none⟩) hlo _).setCell (p := ⟨gu, 3, none⟩) hlo _), (fun e => by obtain ⟨y0, y1, h1, h2⟩ := gP e; exact ⟨y0, y1, h1, (((h2.stay hrow (by decide) 0 _).stay (row_put hrow 0 _) (by decide) 1 _).stay (row_put (row_put hrow 0 _) 1 _) (by decide) 2 _).stay (row_put (row_put (row_put hrow 0 _) 1 _) 2 _) (by decide) 3 _⟩), (fun e => by obtain ⟨y0, y1, h1, h2⟩ := gX e; exact ⟨y0, y1, h1, (((h2.stay hrow (by decide) 0 _).stay (row_put hrow 0 _) (by decide) 1 _).stay (row_put (row_put hrow 0 _) 1 _) (by decide) 2 _).stay (row_put (row_put (row_put hrow 0 _) 1 _) 2 _) (by decide) 3 _⟩), (fun e => by cases e), (fun _ => ⟨gu, rfl, hlo, row_put (row_put (row_put (row_put hrow 0 _) 1 _) 2 _) 3 _⟩)⟩
    · have hn10 : b10 = false := by revert hp; cases b10 <;> simp
      have e5 : b5 = true := by revert hp; cases b5 <;> simp
      have e9 : b9 = true := by revert hp; cases b9 <;> simp
      clear hp
      obtain rfl := (HI.out.2.2.2.2.1) e5
      subst hn10
      refine inv_op (o := ⟨some 9, _, _, _, _, _⟩) rfl (fun K' hK' => ?_)
      go_simp
      obtain ⟨h0, h1, h3, h4, h5, h7, h10, h11, h12, gi3, gi11, gi2, gi6, gi9, rD, gB, gP, gX, gA, gS⟩ := HI.out
      exact hK'.out _ _ ⟨⟨b0, b1, b2, b3, b4, b5, b6, b7, b8, b9, true, b11, b12, s45, s46, s47, s44, s48, _, s50, s51, s8, _, s10, s11⟩, rfl, rfl, h0, h1, h3, h4, h5, h7, (fun _ => rfl), h11, h12, gi3, gi11, gi2, gi6, gi9, rD, gB, gP, gX, gA, gS⟩
    · have hn11 : b11 = false := by revert hp; cases b11 <;> simp
      have e6 : b6 = true := by revert hp; cases b6 <;> simp
      have e10 : b10 = true := by revert hp; cases b10 <;> simp
      clear hp
      subst hn11
      refine inv_op (o := ⟨some 10, _, _, _, _, _⟩) rfl (fun K' hK' => ?_)
      go_simp
      obtain ⟨h0, h1, h3, h4, h5, h7, h10, h11, h12, gi3, gi11, gi2, gi6, gi9, rD, gB, gP, gX, gA, gS⟩ := HI.out
      exact hK'.out _ _ ⟨⟨b0, b1, b2, b3, b4, b5, b6, b7, b8, b9, b10, true, b12, s45, s46, s47, s44, s48, s49, _, s51, s8, s9, _, s11⟩, rfl, rfl, h0, h1, h3, h4, h5, h7, h10, (fun _ => rfl), h12, gi3, (fun _ => e6), gi2, gi6, gi9, rD, gB, gP, gX, gA, gS⟩
    · have hn12 : b12 = false := by revert hp; cases b12 <;> simp
      have e7 : b7 = true := by revert hp; cases b7 <;> simp
      have e11 : b11 = true := by revert hp; cases b11 <;> simp
      clear hp
      obtain rfl := (HI.out.2.2.2.2.2.1) e7
      subst hn12
      refine inv_op (o := ⟨some 11, _, _, _, _, _⟩) rfl (fun K' hK' => ?_)
      go_simp
      obtain ⟨h0, h1, h3, h4, h5, h7, h10, h11, h12, gi3, gi11, gi2, gi6, gi9, rD, gB, gP, gX, gA, gS⟩ := HI.out
      exact hK'.out _ _ ⟨⟨b0, b1, b2, b3, b4, b5, b6, b7, b8, b9, b10, b11, true, s45, s46, s47, s44, s48, s49, s50, _, s8, s9, s10, _⟩, rfl, rfl, h0, h1, h3, h4, h5, h7, h10, h11, (fun _ => rfl), gi3, gi11, gi2, gi6, gi9, rD, gB, gP, gX, gA, gS⟩
  case hdone =>
    rintro ⟨b0, b1, b2, b3, b4, b5, b6, b7, b8, b9, b10, b11, b12, s45, s46, s47, s44, s48, s49, s50, s51, s8, s9, s10, s11⟩ W hI hall
    dsimp only at hI hall ⊢
    have HI := Lib.hid hI
    clear hI
    obtain rfl : b0 = true := hall 0 (by decide)
    obtain rfl : b1 = true := hall 1 (by decide)
    obtain rfl : b2 = true := hall 2 (by decide)
    obtain rfl : b3 = true := hall 3 (by decide)
    obtain rfl : b4 = true := hall 4 (by decide)
    obtain rfl : b5 = true := hall 5 (by decide)
    obtain rfl : b6 = true := hall 6 (by decide)
    obtain rfl : b7 = true := hall 7 (by decide)
    obtain rfl : b8 = true := hall 8 (by decide)
    obtain rfl : b9 = true := hall 9 (by decide)
    obtain rfl : b10 = true := hall 10 (by decide)
    obtain rfl : b11 = true := hall 11 (by decide)
    obtain rfl : b12 = true := hall 12 (by decide)
    obtain rfl := (HI.out.2.2.2.2.2.2.1) rfl
    obtain rfl := (HI.out.2.2.2.2.2.2.2.1) rfl
    obtain rfl := (HI.out.2.2.2.2.2.2.2.2.1) rfl
    have gB := HI.out.2.2.2.2.2.2.2.2.2.2.2.2.2.2.2.1
    have gX := HI.out.2.2.2.2.2.2.2.2.2.2.2.2.2.2.2.2.2.1
    have gS := HI.out.2.2.2.2.2.2.2.2.2.2.2.2.2.2.2.2.2.2.2
    clear HI hall
    obtain ⟨gu, rfl, hlo, hrow⟩ := gS rfl
    obtain ⟨ra, rc, rfl, hp⟩ := gX rfl
    clear HNX
    replace BW := Lib.hid (BW.out.trans (gB.mono BW.out.size))
    replace Qa := Lib.hid (Qa.out.below gB)
    replace Rm := Lib.hid (row_keep Rm.out gB)
    replace Rq := Lib.hid (row_keep Rq.out gB)
    replace Ab := Lib.hid (Ab.out.below gB)
    replace Qb := Lib.hid (Qb.out.below gB)
    replace Rd := Lib.hid (row_keep Rd.out gB)
    replace Re := Lib.hid (row_keep Re.out gB)
    have Rs := Lib.hid hrow
    have Pa := Lib.hid hp
    clear gS gX hrow hp
    have hgu : w.heap.size ≤ gu := Nat.le_trans HDW.out hlo
    have HGU := Lib.hid hgu
    clear hlo hgu gB
    obtain ⟨lRd0c8, zRd0c8⟩ := at_cell Rd.out 0 _ rfl
    obtain ⟨lRs0c9, zRs0c9⟩ := at_cell Rs.out 0 _ rfl
    obtain ⟨lRs1c10, zRs1c10⟩ := at_cell Rs.out 1 _ rfl
    obtain ⟨lRs2c11, zRs2c11⟩ := at_cell Rs.out 2 _ rfl
    obtain ⟨lRs3c12, zRs3c12⟩ := at_cell Rs.out 3 _ rfl
    go_wp2_with fail
    refine (give_this 4 0 1 0 0 5 _ G1 _ Ab.out (hok4 _ HF.out.n1) (by decide) (by decide) (by decide) 0 4 1 0 1 0 5 200 rfl rfl rfl rfl rfl rfl rfl HF.out.n1).mono ?_
    rintro e w3 ⟨ag, cg, rfl, hm, hb⟩
    clear lRd0c8 zRd0c8 lRs0c9 zRs0c9 lRs1c10 zRs1c10 lRs2c11 zRs2c11 lRs3c12 zRs3c12
    replace BW := Lib.hid (BW.out.trans (hb.mono BW.out.size))
    replace Qa := Lib.hid (Qa.out.below hb)
    replace Rm := Lib.hid (row_keep Rm.out hb)
    replace Rq := Lib.hid (row_keep Rq.out hb)
    replace Ab := Lib.hid (Ab.out.below hb)
    replace Qb := Lib.hid (Qb.out.below hb)
    replace Rd := Lib.hid (row_keep Rd.out hb)
    replace Re := Lib.hid (row_keep Re.out hb)
    replace Rs := Lib.hid (row_keep Rs.out hb)
    replace Pa := Lib.hid (Pa.out.below hb)
    have Ag := Lib.hid hm
    clear hm
    clear hb
    rw [HG2.out] at Ag
    obtain ⟨lRs0c13, zRs0c13⟩ := at_cell Rs.out 0 _ rfl
    obtain ⟨lRs1c14, zRs1c14⟩ := at_cell Rs.out 1 _ rfl
    obtain ⟨lRs2c15, zRs2c15⟩ := at_cell Rs.out 2 _ rfl
    obtain ⟨lRs3c16, zRs3c16⟩ := at_cell Rs.out 3 _ rfl
    have hls := (Array.getElem?_eq_some_iff.1 Rs.out).1
    have BWn := Lib.hid ((((BW.out.setCell (p := ⟨gu, 0, none⟩) (HGU.out) (.int .i64 0)).setCell (p := ⟨gu, 1, none⟩) (HGU.out) (.int .i64 4)).setCell (p := ⟨gu, 2, none⟩) (HGU.out) (.int .u16 1)).setCell (p := ⟨gu, 3, none⟩) (HGU.out) (.int .u16 1))
    have Qan := Lib.hid ((((Qa.out.stay Rs.out (by decide) (by decide) 0 (.int .i64 0)).stay (row_put Rs.out 0 (.int .i64 0)) (by decide) (by decide) 1 (.int .i64 4)).stay (row_put (row_put Rs.out 0 (.int .i64 0)) 1 (.int .i64 4)) (by decide) (by decide) 2 (.int .u16 1)).stay (row_put (row_put (row_put Rs.out 0 (.int .i64 0)) 1 (.int .i64 4)) 2 (.int .u16 1)) (by decide) (by decide) 3 (.int .u16 1))
    have Rmn := Lib.hid (one_other (one_other (one_other (one_other Rm.out ⟨gu, 0, none⟩ (.int .i64 0) (blocks_ne Rm.out Rs.out (by decide))) ⟨gu, 1, none⟩ (.int .i64 4) (blocks_ne Rm.out Rs.out (by decide))) ⟨gu, 2, none⟩ (.int .u16 1) (blocks_ne Rm.out Rs.out (by decide))) ⟨gu, 3, none⟩ (.int .u16 1) (blocks_ne Rm.out Rs.out (by decide)))
    have Rqn := Lib.hid (one_other (one_other (one_other (one_other Rq.out ⟨gu, 0, none⟩ (.int .i64 0) (blocks_ne Rq.out Rs.out (by decide))) ⟨gu, 1, none⟩ (.int .i64 4) (blocks_ne Rq.out Rs.out (by decide))) ⟨gu, 2, none⟩ (.int .u16 1) (blocks_ne Rq.out Rs.out (by decide))) ⟨gu, 3, none⟩ (.int .u16 1) (blocks_ne Rq.out Rs.out (by decide)))
    have Abn := Lib.hid ((((Ab.out.stay Rs.out (by decide) 0 (.int .i64 0)).stay (row_put Rs.out 0 (.int .i64 0)) (by decide) 1 (.int .i64 4)).stay (row_put (row_put Rs.out 0 (.int .i64 0)) 1 (.int .i64 4)) (by decide) 2 (.int .u16 1)).stay (row_put (row_put (row_put Rs.out 0 (.int .i64 0)) 1 (.int .i64 4)) 2 (.int .u16 1)) (by decide) 3 (.int .u16 1))
    have Qbn := Lib.hid ((((Qb.out.stay Rs.out (by decide) (by decide) 0 (.int .i64 0)).stay (row_put Rs.out 0 (.int .i64 0)) (by decide) (by decide) 1 (.int .i64 4)).stay (row_put (row_put Rs.out 0 (.int .i64 0)) 1 (.int .i64 4)) (by decide) (by decide) 2 (.int .u16 1)).stay (row_put (row_put (row_put Rs.out 0 (.int .i64 0)) 1 (.int .i64 4)) 2 (.int .u16 1)) (by decide) (by decide) 3 (.int .u16 1))
    have Rdn := Lib.hid (one_other (one_other (one_other (one_other Rd.out ⟨gu, 0, none⟩ (.int .i64 0) (blocks_ne Rd.out Rs.out (by decide))) ⟨gu, 1, none⟩ (.int .i64 4) (blocks_ne Rd.out Rs.out (by decide))) ⟨gu, 2, none⟩ (.int .u16 1) (blocks_ne Rd.out Rs.out (by decide))) ⟨gu, 3, none⟩ (.int .u16 1) (blocks_ne Rd.out Rs.out (by decide)))
    have Ren := Lib.hid (one_other (one_other (one_other (one_other Re.out ⟨gu, 0, none⟩ (.int .i64 0) (blocks_ne Re.out Rs.out (by decide))) ⟨gu, 1, none⟩ (.int .i64 4) (blocks_ne Re.out Rs.out (by decide))) ⟨gu, 2, none⟩ (.int .u16 1) (blocks_ne Re.out Rs.out (by decide))) ⟨gu, 3, none⟩ (.int .u16 1) (blocks_ne Re.out Rs.out (by decide)))
    have Pan := Lib.hid ((((Pa.out.stay Rs.out (by decide) 0 (.int .i64 0)).stay (row_put Rs.out 0 (.int .i64 0)) (by decide) 1 (.int .i64 4)).stay (row_put (row_put Rs.out 0 (.int .i64 0)) 1 (.int .i64 4)) (by decide) 2 (.int .u16 1)).stay (row_put (row_put (row_put Rs.out 0 (.int .i64 0)) 1 (.int .i64 4)) 2 (.int .u16 1)) (by decide) 3 (.int .u16 1))
    have Agn := Lib.hid ((((Ag.out.stay Rs.out (by decide) 0 (.int .i64 0)).stay (row_put Rs.out 0 (.int .i64 0)) (by decide) 1 (.int .i64 4)).stay (row_put (row_put Rs.out 0 (.int .i64 0)) 1 (.int .i64 4)) (by decide) 2 (.int .u16 1)).stay (row_put (row_put (row_put Rs.out 0 (.int .i64 0)) 1 (.int .i64 4)) 2 (.int .u16 1)) (by decide) 3 (.int .u16 1))
    replace Rs := Lib.hid (row_put (row_put (row_put (row_put Rs.out 0 (.int .i64 0)) 1 (.int .i64 4)) 2 (.int .u16 1)) 3 (.int .u16 1))
    replace BW := BWn
    replace Qa := Qan
    replace Rm := Rmn
    replace Rq := Rqn
    replace Ab := Abn
    replace Qb := Qbn
    replace Rd := Rdn
    replace Re := Ren
    replace Pa := Pan
    replace Ag := Agn
    try clear BWn Qan Rmn Rqn Abn Qbn Rdn Ren Pan Agn
    have hbx : Below (((((w3.setCell ⟨gu, 0, none⟩ (.int .i64 0)).setCell ⟨gu, 1, none⟩ (.int .i64 4)).setCell ⟨gu, 2, none⟩ (.int .u16 1)).setCell ⟨gu, 3, none⟩ (.int .u16 1))).heap.size (((((w3.setCell ⟨gu, 0, none⟩ (.int .i64 0)).setCell ⟨gu, 1, none⟩ (.int .i64 4)).setCell ⟨gu, 2, none⟩ (.int .u16 1)).setCell ⟨gu, 3, none⟩ (.int .u16 1))) ((((((w3.setCell ⟨gu, 0, none⟩ (.int .i64 0)).setCell ⟨gu, 1, none⟩ (.int .i64 4)).setCell ⟨gu, 2, none⟩ (.int .u16 1)).setCell ⟨gu, 3, none⟩ (.int .u16 1))).alloc (.cells #[.slice ag 200 cg] 26)) := (Below.refl _ _).alloc (Nat.le_refl _) _
    replace BW := Lib.hid (BW.out.trans (hbx.mono BW.out.size))
    replace Qa := Lib.hid (Qa.out.below hbx)
    replace Rm := Lib.hid (row_keep Rm.out hbx)
    replace Rq := Lib.hid (row_keep Rq.out hbx)
    replace Ab := Lib.hid (Ab.out.below hbx)
    replace Qb := Lib.hid (Qb.out.below hbx)
    replace Rd := Lib.hid (row_keep Rd.out hbx)
    replace Re := Lib.hid (row_keep Re.out hbx)
    replace Rs := Lib.hid (row_keep Rs.out hbx)
    replace Pa := Lib.hid (Pa.out.below hbx)
    replace Ag := Lib.hid (Ag.out.below hbx)
    have Rh := Lib.hid (heap_alloc_new (((((w3.setCell ⟨gu, 0, none⟩ (.int .i64 0)).setCell ⟨gu, 1, none⟩ (.int .i64 4)).setCell ⟨gu, 2, none⟩ (.int .u16 1)).setCell ⟨gu, 3, none⟩ (.int .u16 1))) (.cells #[.slice ag 200 cg] 26))
    clear hbx
    have hsz : (((((w3.setCell ⟨gu, 0, none⟩ (.int .i64 0)).setCell ⟨gu, 1, none⟩ (.int .i64 4)).setCell ⟨gu, 2, none⟩ (.int .u16 1)).setCell ⟨gu, 3, none⟩ (.int .u16 1))).heap.size = w3.heap.size := by simp
    rw [hsz] at Rh
    clear hsz
    go_simp
    iterate 24 (first | go_step | go_values | go_skip | go_guarded | go_upon | go_in | go_back)
    clear lRs0c13 zRs0c13 lRs1c14 zRs1c14 lRs2c15 zRs2c15 lRs3c16 zRs3c16 hls
    obtain ⟨we, hwe⟩ : ∃ x, x = (((((w3.setCell ⟨gu, 0, none⟩ (.int .i64 0)).setCell ⟨gu, 1, none⟩ (.int .i64 4)).setCell ⟨gu, 2, none⟩ (.int .u16 1)).setCell ⟨gu, 3, none⟩ (.int .u16 1))).alloc (.cells #[.slice ag 200 cg] 26) := ⟨_, rfl⟩
    rw [← hwe] at BW Qa Rm Rq Ab Qb Rd Re Rs Pa Ag Rh ⊢
    clear hwe
    obtain ⟨lRh0c17, zRh0c17⟩ := at_cell Rh.out 0 _ rfl
    clear zRh0c17
    obtain ⟨lRe0c18, zRe0c18⟩ := at_cell Re.out 0 _ rfl
    clear zRe0c18
    obtain ⟨lRe1c19, zRe1c19⟩ := at_cell Re.out 1 _ rfl
    clear zRe1c19
    obtain ⟨lRe2c20, zRe2c20⟩ := at_cell Re.out 2 _ rfl
    clear zRe2c20
    obtain ⟨lRe3c21, zRe3c21⟩ := at_cell Re.out 3 _ rfl
    clear zRe3c21
    obtain ⟨lRe4c22, zRe4c22⟩ := at_cell Re.out 4 _ rfl
    clear zRe4c22
    obtain ⟨lRe5c23, zRe5c23⟩ := at_cell Re.out 5 _ rfl
    clear zRe5c23
    go_wp2_with fail
    refine (poll_this hq1 4 0 _ _ _ _ G2 _ Ag.out Qb.out hgood1 rfl (hok4 _ HF.out.n2) hq2 0 5 0 HF.out.p1 0 4 1 0 1 1 rfl rfl rfl rfl rfl rfl rfl rfl).mono ?_
    rintro e w4 ⟨Fc, Cc, Dc, rfl, hq, hb⟩
    obtain ⟨fc, pfc, rfl⟩ := hq.freeLen hq2_free
    obtain ⟨xc, pxc, rfl⟩ := hq.chainLen hq2_clen
    clear lRh0c17 lRe0c18 lRe1c19 lRe2c20 lRe3c21 lRe4c22 lRe5c23
    replace BW := Lib.hid (BW.out.trans (hb.mono BW.out.size))
    replace Qa := Lib.hid (Qa.out.below hb)
    replace Rm := Lib.hid (row_keep Rm.out hb)
    replace Rq := Lib.hid (row_keep Rq.out hb)
    replace Ab := Lib.hid (Ab.out.below hb)
    replace Qb := Lib.hid (Qb.out.below hb)
    replace Rd := Lib.hid (row_keep Rd.out hb)
    replace Re := Lib.hid (row_keep Re.out hb)
    replace Rs := Lib.hid (row_keep Rs.out hb)
    replace Pa := Lib.hid (Pa.out.below hb)
    replace Ag := Lib.hid (Ag.out.below hb)
    replace Rh := Lib.hid (row_keep Rh.out hb)
    have Qc := Lib.hid hq
    clear hq
    clear hb
    have hbx : Below (w4).heap.size (w4) ((w4).alloc (.cells #[.int .i64 0, .int .i64 4, .slice fc 4 pfc, .int .u16 1, .int .u16 1, .slice xc 0 pxc] 30)) := (Below.refl _ _).alloc (Nat.le_refl _) _
    replace BW := Lib.hid (BW.out.trans (hbx.mono BW.out.size))
    replace Qa := Lib.hid (Qa.out.below hbx)
    replace Rm := Lib.hid (row_keep Rm.out hbx)
    replace Rq := Lib.hid (row_keep Rq.out hbx)
    replace Ab := Lib.hid (Ab.out.below hbx)
    replace Qb := Lib.hid (Qb.out.below hbx)
    replace Rd := Lib.hid (row_keep Rd.out hbx)
    replace Re := Lib.hid (row_keep Re.out hbx)
    replace Rs := Lib.hid (row_keep Rs.out hbx)
    replace Pa := Lib.hid (Pa.out.below hbx)
    replace Ag := Lib.hid (Ag.out.below hbx)
    replace Rh := Lib.hid (row_keep Rh.out hbx)
    replace Qc := Lib.hid (Qc.out.below hbx)
    have Ri := Lib.hid (heap_alloc_new (w4) (.cells #[.int .i64 0, .int .i64 4, .slice fc 4 pfc, .int .u16 1, .int .u16 1, .slice xc 0 pxc] 30))
    clear hbx
    obtain ⟨lRh0c24, zRh0c24⟩ := at_cell Rh.out 0 _ rfl
    clear zRh0c24
    obtain ⟨lRi0c25, zRi0c25⟩ := at_cell Ri.out 0 _ rfl
    clear zRi0c25
    obtain ⟨lRi1c26, zRi1c26⟩ := at_cell Ri.out 1 _ rfl
    clear zRi1c26
    obtain ⟨lRi2c27, zRi2c27⟩ := at_cell Ri.out 2 _ rfl
    clear zRi2c27
    obtain ⟨lRi3c28, zRi3c28⟩ := at_cell Ri.out 3 _ rfl
    clear zRi3c28
    obtain ⟨lRi4c29, zRi4c29⟩ := at_cell Ri.out 4 _ rfl
    clear zRi4c29
    obtain ⟨lRi5c30, zRi5c30⟩ := at_cell Ri.out 5 _ rfl
    clear zRi5c30
    go_wp2_with fail
    refine (poll_this hq2 4 0 _ _ _ _ G2 _ Ag.out Qc.out hgood2 rfl (hok4 _ HF.out.n2) hq2 0 0 7 HF.out.p2 0 4 1 1 1 1 rfl rfl rfl rfl rfl rfl rfl rfl).mono ?_
    rintro e w5 ⟨Fd, Cd, Dd, rfl, hq, hb⟩
    obtain ⟨fd, pfd, rfl⟩ := hq.freeLen hq2_free
    obtain ⟨xd, pxd, rfl⟩ := hq.chainLen hq2_clen
    clear lRh0c24 lRi0c25 lRi1c26 lRi2c27 lRi3c28 lRi4c29 lRi5c30
    replace BW := Lib.hid (BW.out.trans (hb.mono BW.out.size))
    replace Qa := Lib.hid (Qa.out.below hb)
    replace Rm := Lib.hid (row_keep Rm.out hb)
    replace Rq := Lib.hid (row_keep Rq.out hb)
    replace Ab := Lib.hid (Ab.out.below hb)
    replace Qb := Lib.hid (Qb.out.below hb)
    replace Rd := Lib.hid (row_keep Rd.out hb)
    replace Re := Lib.hid (row_keep Re.out hb)
    replace Rs := Lib.hid (row_keep Rs.out hb)
    replace Pa := Lib.hid (Pa.out.below hb)
    replace Ag := Lib.hid (Ag.out.below hb)
    replace Rh := Lib.hid (row_keep Rh.out hb)
    replace Qc := Lib.hid (Qc.out.below hb)
    replace Ri := Lib.hid (row_keep Ri.out hb)
    have Qd := Lib.hid hq
    clear hq
    clear hb
    have hbx : Below (w5).heap.size (w5) ((w5).alloc (.cells #[.int .i64 0, .int .i64 4, .slice fd 4 pfd, .int .u16 1, .int .u16 1, .slice xd 0 pxd] 30)) := (Below.refl _ _).alloc (Nat.le_refl _) _
    replace BW := Lib.hid (BW.out.trans (hbx.mono BW.out.size))
    replace Qa := Lib.hid (Qa.out.below hbx)
    replace Rm := Lib.hid (row_keep Rm.out hbx)
    replace Rq := Lib.hid (row_keep Rq.out hbx)
    replace Ab := Lib.hid (Ab.out.below hbx)
    replace Qb := Lib.hid (Qb.out.below hbx)
    replace Rd := Lib.hid (row_keep Rd.out hbx)
    replace Re := Lib.hid (row_keep Re.out hbx)
    replace Rs := Lib.hid (row_keep Rs.out hbx)
    replace Pa := Lib.hid (Pa.out.below hbx)
    replace Ag := Lib.hid (Ag.out.below hbx)
    replace Rh := Lib.hid (row_keep Rh.out hbx)
    replace Qc := Lib.hid (Qc.out.below hbx)
    replace Ri := Lib.hid (row_keep Ri.out hbx)
    replace Qd := Lib.hid (Qd.out.below hbx)
    have Rj := Lib.hid (heap_alloc_new (w5) (.cells #[.int .i64 0, .int .i64 4, .slice fd 4 pfd, .int .u16 1, .int .u16 1, .slice xd 0 pxd] 30))
    clear hbx
    obtain ⟨lRh0c31, zRh0c31⟩ := at_cell Rh.out 0 _ rfl
    clear zRh0c31
    obtain ⟨lRq0c32, zRq0c32⟩ := at_cell Rq.out 0 _ rfl
    clear zRq0c32
    obtain ⟨lRq1c33, zRq1c33⟩ := at_cell Rq.out 1 _ rfl
    clear zRq1c33
    obtain ⟨lRq2c34, zRq2c34⟩ := at_cell Rq.out 2 _ rfl
    clear zRq2c34
    obtain ⟨lRq3c35, zRq3c35⟩ := at_cell Rq.out 3 _ rfl
    clear zRq3c35
    obtain ⟨lRq4c36, zRq4c36⟩ := at_cell Rq.out 4 _ rfl
    clear zRq4c36
    obtain ⟨lRq5c37, zRq5c37⟩ := at_cell Rq.out 5 _ rfl
    clear zRq5c37
    go_wp2_with fail
    refine (poll_this hq0 4 0 _ _ _ _ G2 _ Ag.out Qa.out hgood0 rfl (hok4 _ HF.out.n2) { hq0 with last := 1 } 0 0 80 HF.out.p3 0 4 0 0 0 1 rfl rfl rfl rfl rfl rfl rfl rfl).mono ?_
    rintro e w6 ⟨Fe, Ce, De, rfl, hq, hb⟩
    obtain ⟨fe, pfe, rfl⟩ := hq.freeLen hq0_len
    obtain ⟨xe, pxe, rfl⟩ := hq.chainLen (show ({ hq0 with last := 1 } : QQ).chains.length = 0 from rfl)
    clear lRh0c31 lRq0c32 lRq1c33 lRq2c34 lRq3c35 lRq4c36 lRq5c37
    replace BW := Lib.hid (BW.out.trans (hb.mono BW.out.size))
    replace Qa := Lib.hid (Qa.out.below hb)
    replace Rm := Lib.hid (row_keep Rm.out hb)
    replace Rq := Lib.hid (row_keep Rq.out hb)
    replace Ab := Lib.hid (Ab.out.below hb)
    replace Qb := Lib.hid (Qb.out.below hb)
    replace Rd := Lib.hid (row_keep Rd.out hb)
    replace Re := Lib.hid (row_keep Re.out hb)
    replace Rs := Lib.hid (row_keep Rs.out hb)
    replace Pa := Lib.hid (Pa.out.below hb)
    replace Ag := Lib.hid (Ag.out.below hb)
    replace Rh := Lib.hid (row_keep Rh.out hb)
    replace Qc := Lib.hid (Qc.out.below hb)
    replace Ri := Lib.hid (row_keep Ri.out hb)
    replace Qd := Lib.hid (Qd.out.below hb)
    replace Rj := Lib.hid (row_keep Rj.out hb)
    have Qe := Lib.hid hq
    clear hq
    clear hb
    have hbx : Below (w6).heap.size (w6) ((w6).alloc (.cells #[.int .i64 0, .int .i64 4, .slice fe 4 pfe, .int .u16 0, .int .u16 1, .slice xe 0 pxe] 30)) := (Below.refl _ _).alloc (Nat.le_refl _) _
    replace BW := Lib.hid (BW.out.trans (hbx.mono BW.out.size))
    replace Qa := Lib.hid (Qa.out.below hbx)
    replace Rm := Lib.hid (row_keep Rm.out hbx)
    replace Rq := Lib.hid (row_keep Rq.out hbx)
    replace Ab := Lib.hid (Ab.out.below hbx)
    replace Qb := Lib.hid (Qb.out.below hbx)
    replace Rd := Lib.hid (row_keep Rd.out hbx)
    replace Re := Lib.hid (row_keep Re.out hbx)
    replace Rs := Lib.hid (row_keep Rs.out hbx)
    replace Pa := Lib.hid (Pa.out.below hbx)
    replace Ag := Lib.hid (Ag.out.below hbx)
    replace Rh := Lib.hid (row_keep Rh.out hbx)
    replace Qc := Lib.hid (Qc.out.below hbx)
    replace Ri := Lib.hid (row_keep Ri.out hbx)
    replace Qd := Lib.hid (Qd.out.below hbx)
    replace Rj := Lib.hid (row_keep Rj.out hbx)
    replace Qe := Lib.hid (Qe.out.below hbx)
    have Rk := Lib.hid (heap_alloc_new (w6) (.cells #[.int .i64 0, .int .i64 4, .slice fe 4 pfe, .int .u16 0, .int .u16 1, .slice xe 0 pxe] 30))
    clear hbx
    obtain ⟨lRq0c38, zRq0c38⟩ := at_cell Rq.out 0 _ rfl
    clear zRq0c38
    obtain ⟨lRq1c39, zRq1c39⟩ := at_cell Rq.out 1 _ rfl
    clear zRq1c39
    obtain ⟨lRq2c40, zRq2c40⟩ := at_cell Rq.out 2 _ rfl
    clear zRq2c40
    obtain ⟨lRq3c41, zRq3c41⟩ := at_cell Rq.out 3 _ rfl
    clear zRq3c41
    obtain ⟨lRq4c42, zRq4c42⟩ := at_cell Rq.out 4 _ rfl
    clear zRq4c42
    obtain ⟨lRq5c43, zRq5c43⟩ := at_cell Rq.out 5 _ rfl
    clear zRq5c43
    go_wp2_with fail
    refine (check_this hq0 4 _ _ _ _ Qa.out hgood0 0 4 0 0 rfl rfl rfl rfl).mono ?_
    rintro e w7 ⟨rfl, hb⟩
    clear lRq0c38 lRq1c39 lRq2c40 lRq3c41 lRq4c42 lRq5c43
    replace BW := Lib.hid (BW.out.trans (hb.mono BW.out.size))
    replace Qa := Lib.hid (Qa.out.below hb)
    replace Rm := Lib.hid (row_keep Rm.out hb)
    replace Rq := Lib.hid (row_keep Rq.out hb)
    replace Ab := Lib.hid (Ab.out.below hb)
    replace Qb := Lib.hid (Qb.out.below hb)
    replace Rd := Lib.hid (row_keep Rd.out hb)
    replace Re := Lib.hid (row_keep Re.out hb)
    replace Rs := Lib.hid (row_keep Rs.out hb)
    replace Pa := Lib.hid (Pa.out.below hb)
    replace Ag := Lib.hid (Ag.out.below hb)
    replace Rh := Lib.hid (row_keep Rh.out hb)
    replace Qc := Lib.hid (Qc.out.below hb)
    replace Ri := Lib.hid (row_keep Ri.out hb)
    replace Qd := Lib.hid (Qd.out.below hb)
    replace Rj := Lib.hid (row_keep Rj.out hb)
    replace Qe := Lib.hid (Qe.out.below hb)
    replace Rk := Lib.hid (row_keep Rk.out hb)
    clear hb
    obtain ⟨lRe0c44, zRe0c44⟩ := at_cell Re.out 0 _ rfl
    clear zRe0c44
    obtain ⟨lRe1c45, zRe1c45⟩ := at_cell Re.out 1 _ rfl
    clear zRe1c45
    obtain ⟨lRe2c46, zRe2c46⟩ := at_cell Re.out 2 _ rfl
    clear zRe2c46
    obtain ⟨lRe3c47, zRe3c47⟩ := at_cell Re.out 3 _ rfl
    clear zRe3c47
    obtain ⟨lRe4c48, zRe4c48⟩ := at_cell Re.out 4 _ rfl
    clear zRe4c48
    obtain ⟨lRe5c49, zRe5c49⟩ := at_cell Re.out 5 _ rfl
    clear zRe5c49
    have hbx : Below (w7).heap.size (w7) ((w7).alloc (.cells #[.int .i64 150, .int .i64 4, .bool false, .int .i64 160, .int .i64 8, .bool true] 39)) := (Below.refl _ _).alloc (Nat.le_refl _) _
    replace BW := Lib.hid (BW.out.trans (hbx.mono BW.out.size))
    replace Qa := Lib.hid (Qa.out.below hbx)
    replace Rm := Lib.hid (row_keep Rm.out hbx)
    replace Rq := Lib.hid (row_keep Rq.out hbx)
    replace Ab := Lib.hid (Ab.out.below hbx)
    replace Qb := Lib.hid (Qb.out.below hbx)
    replace Rd := Lib.hid (row_keep Rd.out hbx)
    replace Re := Lib.hid (row_keep Re.out hbx)
    replace Rs := Lib.hid (row_keep Rs.out hbx)
    replace Pa := Lib.hid (Pa.out.below hbx)
    replace Ag := Lib.hid (Ag.out.below hbx)
    replace Rh := Lib.hid (row_keep Rh.out hbx)
    replace Qc := Lib.hid (Qc.out.below hbx)
    replace Ri := Lib.hid (row_keep Ri.out hbx)
    replace Qd := Lib.hid (Qd.out.below hbx)
    replace Rj := Lib.hid (row_keep Rj.out hbx)
    replace Qe := Lib.hid (Qe.out.below hbx)
    replace Rk := Lib.hid (row_keep Rk.out hbx)
    have hpr := buf_rows (w7) 150 4 false 160 8 true
    have hsz : (w7).heap.size = w7.heap.size := by simp
    rw [hsz] at hpr
    have BF := Lib.hid hpr
    clear hbx hsz hpr
    go_wp2_with fail
    refine (bufs_any 0 0 _ _ hbs _ Pa.out BF.out (by decide)).mono ?_
    rintro e w8 ⟨rfl, hb⟩
    clear lRe0c44 lRe1c45 lRe2c46 lRe3c47 lRe4c48 lRe5c49
    replace BW := Lib.hid (BW.out.trans (hb.mono BW.out.size))
    replace Qa := Lib.hid (Qa.out.below hb)
    replace Rm := Lib.hid (row_keep Rm.out hb)
    replace Rq := Lib.hid (row_keep Rq.out hb)
    replace Ab := Lib.hid (Ab.out.below hb)
    replace Qb := Lib.hid (Qb.out.below hb)
    replace Rd := Lib.hid (row_keep Rd.out hb)
    replace Re := Lib.hid (row_keep Re.out hb)
    replace Rs := Lib.hid (row_keep Rs.out hb)
    replace Pa := Lib.hid (Pa.out.below hb)
    replace Ag := Lib.hid (Ag.out.below hb)
    replace Rh := Lib.hid (row_keep Rh.out hb)
    replace Qc := Lib.hid (Qc.out.below hb)
    replace Ri := Lib.hid (row_keep Ri.out hb)
    replace Qd := Lib.hid (Qd.out.below hb)
    replace Rj := Lib.hid (row_keep Rj.out hb)
    replace Qe := Lib.hid (Qe.out.below hb)
    replace Rk := Lib.hid (row_keep Rk.out hb)
    replace BF := Lib.hid (BF.out.below hb)
    clear hb
    obtain ⟨lRs0c50, zRs0c50⟩ := at_cell Rs.out 0 _ rfl
    clear zRs0c50
    obtain ⟨lRs1c51, zRs1c51⟩ := at_cell Rs.out 1 _ rfl
    clear zRs1c51
    obtain ⟨lRs2c52, zRs2c52⟩ := at_cell Rs.out 2 _ rfl
    clear zRs2c52
    obtain ⟨lRs3c53, zRs3c53⟩ := at_cell Rs.out 3 _ rfl
    clear zRs3c53
    obtain ⟨lRi0c54, zRi0c54⟩ := at_cell Ri.out 0 _ rfl
    clear zRi0c54
    obtain ⟨lRi1c55, zRi1c55⟩ := at_cell Ri.out 1 _ rfl
    clear zRi1c55
    obtain ⟨lRi2c56, zRi2c56⟩ := at_cell Ri.out 2 _ rfl
    clear zRi2c56
    obtain ⟨lRi3c57, zRi3c57⟩ := at_cell Ri.out 3 _ rfl
    clear zRi3c57
    obtain ⟨lRi4c58, zRi4c58⟩ := at_cell Ri.out 4 _ rfl
    clear zRi4c58
    obtain ⟨lRi5c59, zRi5c59⟩ := at_cell Ri.out 5 _ rfl
    clear zRi5c59
    go_wp2_with fail
    refine (check_this hq2 4 _ _ _ _ Qc.out hgood2 0 4 1 1 rfl rfl rfl rfl).mono ?_
    rintro e w9 ⟨rfl, hb⟩
    clear lRs0c50 lRs1c51 lRs2c52 lRs3c53 lRi0c54 lRi1c55 lRi2c56 lRi3c57 lRi4c58 lRi5c59
    replace BW := Lib.hid (BW.out.trans (hb.mono BW.out.size))
    replace Qa := Lib.hid (Qa.out.below hb)
    replace Rm := Lib.hid (row_keep Rm.out hb)
    replace Rq := Lib.hid (row_keep Rq.out hb)
    replace Ab := Lib.hid (Ab.out.below hb)
    replace Qb := Lib.hid (Qb.out.below hb)
    replace Rd := Lib.hid (row_keep Rd.out hb)
    replace Re := Lib.hid (row_keep Re.out hb)
    replace Rs := Lib.hid (row_keep Rs.out hb)
    replace Pa := Lib.hid (Pa.out.below hb)
    replace Ag := Lib.hid (Ag.out.below hb)
    replace Rh := Lib.hid (row_keep Rh.out hb)
    replace Qc := Lib.hid (Qc.out.below hb)
    replace Ri := Lib.hid (row_keep Ri.out hb)
    replace Qd := Lib.hid (Qd.out.below hb)
    replace Rj := Lib.hid (row_keep Rj.out hb)
    replace Qe := Lib.hid (Qe.out.below hb)
    replace Rk := Lib.hid (row_keep Rk.out hb)
    replace BF := Lib.hid (BF.out.below hb)
    clear hb
    obtain ⟨lRi0c60, zRi0c60⟩ := at_cell Ri.out 0 _ rfl
    clear zRi0c60
    obtain ⟨lRi1c61, zRi1c61⟩ := at_cell Ri.out 1 _ rfl
    clear zRi1c61
    obtain ⟨lRi2c62, zRi2c62⟩ := at_cell Ri.out 2 _ rfl
    clear zRi2c62
    obtain ⟨lRi3c63, zRi3c63⟩ := at_cell Ri.out 3 _ rfl
    clear zRi3c63
    obtain ⟨lRi4c64, zRi4c64⟩ := at_cell Ri.out 4 _ rfl
    clear zRi4c64
    obtain ⟨lRi5c65, zRi5c65⟩ := at_cell Ri.out 5 _ rfl
    clear zRi5c65
    go_wp2
    go_ret
    exact ⟨rfl, BW.out⟩
end Go.Proofs.YtnmekbbnglkmcaaGreat
/- Plain: one turn of the law QueueTurns. -/
namespace Go.Proofs.YtnmekbbnglkmcaaGreat
open Go.RowKit Go.Lib

def tq (A : Nat) : QQ := ⟨0, 4, upN 4, A, A, []⟩
def tbs (n : Int) : List QB := [(200, n, true)]
def tq1 (A : Nat) (n : Int) : QQ := addQ (tq A) (tbs n)
theorem tq_good {A : Nat} (hA : A < 65536) : GoodQ (tq A) 4 :=
  { right := .inr (.inr (.inl rfl)), size := rfl, base := by show (0 : Int) ≤ 0; omega, sorted := upN_sorted 4, perm := by simp [tq, flat], chain := fun c hc => (by cases hc), av := hA, la := hA }
theorem okT (k : List UInt8) (h : k.length = 400) : RingOk k.length 0 4 := ⟨by omega, .inr (.inr (.inl rfl)), by rw [h]; decide⟩
theorem tbs_in (k : List UInt8) (h : k.length = 400) {n : Nat} (h1 : 1 ≤ n) (h2 : n ≤ 64) : ∀ x ∈ tbs n, InB k.length x := by
  rw [h]
  intro x hx
  simp [tbs] at hx
  subst hx
  exact ⟨by show (0 : Int) ≤ 200; omega, by show (1 : Int) ≤ (n : Nat); omega, by show (200 : Int) + (n : Nat) ≤ ((400 : Nat) : Int); omega⟩
theorem tq1_chains (A : Nat) (n : Int) : (tq1 A n).chains = [⟨0, [0], roomOf (tbs n)⟩] := rfl
theorem tq1_len (A : Nat) (n : Int) : (tq1 A n).free.length = 3 := rfl
theorem tq1_clen (A : Nat) (n : Int) : (tq1 A n).chains.length = 1 := rfl
theorem tbs_room (n : Int) : roomOf (tbs n) = n := by simp [roomOf, tbs]
structure TurnStep (A n : Nat) (G1 G2 : List UInt8) : Prop where
  n1 : G1.length = 400
  n2 : G2.length = 400
  good1 : GoodQ (tq1 A n) 4
  ch : Chained G1 0 [0] (tbs n)
  ix : numAt G1 (0 + 16 * 4 + 2) 2 = (A + 1) % 65536
  ne : (A + 1) % 65536 ≠ A
  at0 : numAt G1 (0 + 16 * 4 + 4 + 2 * (A % 4)) 2 = 0
  p : ∀ q2 x y E, PollSpec G2 0 4 (tq1 A n) q2 x y E → q2 = tq ((A + 1) % 65536) ∧ x = 0 ∧ y = (n : Nat) ∧ E = 0
theorem turn_step (G G1 G2 : List UInt8) (A n : Nat) (hA : A < 65536) (hG : G.length = 400) (h1 : 1 ≤ n) (h2 : n ≤ 64) (e1 : addM G 0 4 (tq A) (tbs n) = G1) (e2 : returnD G1 0 4 A 0 n = G2) : TurnStep A n G1 G2 := by
  have hg := tq_good hA
  have n1 : G1.length = 400 := by rw [← e1, addM_length (okT G hG) hg (by show 1 ≤ (upN 4).length; decide), hG]
  have n2 : G2.length = 400 := by rw [← e2, returnD_length _ _ _ (okT G1 n1), n1]
  have hg1 : GoodQ (tq1 A n) 4 := addQ_good hg (by show 1 ≤ 1; omega) (by show 1 ≤ (upN 4).length; decide) (by rw [tbs_room]; omega)
  have hus : usedI G2 0 4 = (A + 1) % 65536 := by
    unfold usedI
    rw [← e2, returnD_index A 0 n (okT G1 n1)]
  have he := returnD_entry (l := G1) (B := 0) (N := 4) A A 0 n rfl (by decide) (by omega) (okT G1 n1)
  rw [e2] at he
  have hll : (layK G 0 ((tq A).free.take (tbs n).length) (tbs n) (tbs n).length).length = 400 := by
    rw [layK_length (okT G hG) (fun d hd => hg.freeIn (List.mem_of_mem_take hd)) (tbs n).length (by show 1 ≤ ((upN 4).take 1).length; decide), hG]
  have hav : (tq A).avail = A := rfl
  have hfr : ((tq A).free.getD 0 0).toNat = 0 := rfl
  refine ⟨n1, n2, hg1, ?_, ?_, by omega, ?_, ?_⟩
  · have h := addM_chained (bs := tbs n) (okT G hG) hg (by show 1 ≤ (upN 4).length; decide) (tbs_in G hG h1 h2)
    rw [e1] at h
    exact h
  · rw [← e1, addM, offerD_index _ _ (okT _ hll), hav]
  · rw [← e1, addM, hav, hfr, offerD_entry A A 0 rfl (by decide) (okT _ hll)]
  · intro q2 x y E h
    obtain ⟨r1, r2, r3, r4⟩ := poll_is_one (a := 0) (n := n) h (tq1_chains A n) (by rw [hus]; rfl) hA he.1 he.2 (by
      unfold isUsed
      refine decide_eq_true ⟨rfl, ?_⟩
      show (n : Int) ≤ roomOf (tbs n)
      rw [tbs_room]
      exact Int.le_refl _)
    refine ⟨?_, r2, r3, r4⟩
    have hs := hg1.seen (t := (A + 1) % 65536) (Nat.mod_lt _ (by decide))
    have hr := relQ_good (i := 0) hs (by show 0 < (tq1 A n).chains.length; rw [tq1_clen]; omega)
    have hf := good_empty hr rfl
    rw [r1]
    show relQ { tq1 A n with last := (A + 1) % 65536 } 0 = tq ((A + 1) % 65536)
    have hx : ∀ q : QQ, q.base = 0 → q.size = 4 → q.free = upN 4 → q.avail = (A + 1) % 65536 → q.last = (A + 1) % 65536 → q.chains = [] → q = tq ((A + 1) % 65536) := by
      rintro ⟨b, z, f, a, l, c⟩ rfl rfl rfl rfl rfl rfl
      rfl
    exact hx _ rfl rfl hf rfl rfl rfl
theorem and_small (x : Int) (m : Nat) (hm : m < 1000) : ∃ y : Nat, y ≤ m ∧ bits BinOp.and IntKind.i64 x (m : Int) = (y : Int) := by
  refine ⟨(BitVec.ofInt 64 x &&& BitVec.ofInt 64 (m : Int)).toNat, ?_, ?_⟩
  · rw [show BitVec.ofInt 64 (m : Int) = BitVec.ofNat 64 m from BitVec.ofInt_natCast .., BitVec.toNat_and, BitVec.toNat_ofNat, Nat.mod_eq_of_lt (by omega)]
    exact Nat.and_le_right
  · have h : (BitVec.ofInt 64 x &&& BitVec.ofInt 64 (m : Int)).toNat ≤ m := by
      rw [show BitVec.ofInt 64 (m : Int) = BitVec.ofNat 64 m from BitVec.ofInt_natCast .., BitVec.toNat_and, BitVec.toNat_ofNat, Nat.mod_eq_of_lt (by omega)]
      exact Nat.and_le_right
    show IntKind.i64.wrap ((((BitVec.ofInt 64 x) &&& (BitVec.ofInt 64 (m : Int))).toNat : Nat) : Int) = _
    generalize ((BitVec.ofInt 64 x) &&& (BitVec.ofInt 64 (m : Int))).toNat = y at h ⊢
    exact IntWalk.i64_in _ (by omega)
end Go.Proofs.YtnmekbbnglkmcaaGreat
/- The document's own: get, put; what is not right; SetDesc. -/
namespace Go.Proofs.YtnmekbbnglkmcaaGreat
open Go.RowKit Go.Lib

set_option maxHeartbeats 1000000 in
theorem refPut_at (v : Value) (l : List UInt8) (p k y : Nat) (hy : y < 18446744073709551616) (hL : l.length ≤ 8192) (h : p + k ≤ l.length) (h1 : 1 ≤ k) (h8 : k ≤ 8) (w : World) (hv : IsArg w v l) :
    Calls Tryz.prog 35 #[.agg #[v], .int .i64 (p : Nat), .int .i64 (k : Nat), .int .u64 (y : Nat)] w fun e w' => ∃ ra rc, e = .returned (.agg #[.slice ra l.length rc]) ∧ Given w' w.heap.size v l (.slice ra l.length rc) (putAt l p k y) ∧ Below w.heap.size w w' := by
  obtain ⟨G, hG⟩ : ∃ G, G = putAt l p k y := ⟨_, rfl⟩
  have hGl : G.length = l.length := by rw [hG]; exact putAt_length y h
  rw [← hG]
  obtain ⟨va, vc, rfl, _⟩ := hv.shape
  obtain ⟨t1, t2, t3⟩ := two_new w (.slice va l.length vc) (.slice none 0 0) 26 26
  have HB0 := Lib.hid t3
  have HV := Lib.hid hv
  have HM := Lib.hid t1
  have HR := Lib.hid t2
  have HC := Lib.hid (refPutNum_at y hy hL h h1 h8 _ (hv.below HB0.out))
  rw [← hG] at HC
  have HG := Lib.hid hGl
  clear hL h h1 h8 hv hG hGl t1 t2 t3 hy
  go_enter Tryz.func35, Tryz.ntmps35
  go_wp2_with fail
  refine (HC.out).mono ?_
  rintro e w1 ⟨r, rfl, hg, hb⟩
  obtain ⟨ra, rc, rfl, _⟩ := (hg.arg (HV.out.below HB0.out) hb).shape
  rw [HG.out] at hg
  rw [HG.out]
  have HGV := Lib.hid (hg.base HB0.out.size)
  have hm := row_keep HM.out hb
  have hr := row_keep HR.out hb
  have HM1 := Lib.hid hm
  have HR1 := Lib.hid hr
  have HB1 := Lib.hid (HB0.out.trans (hb.mono HB0.out.size))
  obtain ⟨c0, g0⟩ := one_cell hm
  obtain ⟨r0, f0⟩ := one_cell hr
  have hlt := (Array.getElem?_eq_some_iff.1 hm).1
  clear hg hb hm hr
  go_wp2
  have hr2 := one_other HR1.out ⟨w.heap.size, 0, none⟩ (.slice ra l.length rc) (by simp)
  refine bodyPost_ret (v := .agg #[.slice ra l.length rc]) (by simp [results, Tryz.results35, go_sem, r0]) rfl ⟨ra, rc, rfl, ?_, ?_⟩
  · exact (HGV.out.far HM1.out tneMU _).far hr2 tneMU _
  · exact (HB1.out.setCell (by simp) _).setCell (by simp) _
/-- One more number put. -/
theorem refPut_step {w0 W : World} {v : Value} {l G : List UInt8} {ra : Option Addr} {rc : Nat} (hv : IsArg w0 v l) (hb : Below w0.heap.size w0 W) (hg : Given W w0.heap.size v l (.slice ra l.length rc) G) (hl : G.length = l.length) (p k y : Nat) (hy : y < 18446744073709551616) (hL : l.length ≤ 8192) (h : p + k ≤ l.length) (h1 : 1 ≤ k) (h8 : k ≤ 8) :
    Calls Tryz.prog 35 #[.agg #[.slice ra l.length rc], .int .i64 (p : Nat), .int .i64 (k : Nat), .int .u64 (y : Nat)] W fun e w' => ∃ ra' rc', e = .returned (.agg #[.slice ra' l.length rc']) ∧ Given w' w0.heap.size v l (.slice ra' l.length rc') (putAt G p k y) ∧ (putAt G p k y).length = l.length ∧ Below W.heap.size W w' := by
  have hr : IsArg W (.slice ra l.length rc) G := hg.arg hv hb
  refine (refPut_at _ G p k y hy (by rw [hl]; exact hL) (by rw [hl]; exact h) h1 h8 W hr).mono ?_
  rintro e w' ⟨ra', rc', rfl, h2, h3⟩
  rw [hl] at h2 ⊢
  exact ⟨ra', rc', rfl, hg.step h2 hb.size (fun k => k.below h3), (putAt_length y (by rw [hl]; exact h)).trans hl, h3⟩
end Go.Proofs.YtnmekbbnglkmcaaGreat
/- The document's own answers of rings. -/
namespace Go.Proofs.YtnmekbbnglkmcaaGreat
open Go.RowKit Go.Lib

set_option maxHeartbeats 1000000 in
set_option maxRecDepth 100000 in
theorem refOffer_out (v : Value) (l : List UInt8) (b z : Int) (k : Nat) (h : Int) (h0 : okR l.length b z = false) (hl : l.length ≤ 140737488355328) (w : World) (hv : IsArg w v l) :
    Calls Tryz.prog 17 #[.agg #[v], .int .i64 b, .int .i64 z, .int .u16 (k : Nat), .int .i64 h] w (Wrote w v l l 70) := by
  have HV := Lib.hid hv
  have HMX := Lib.hid (show l.length ≤ maxLen by unfold maxLen; omega)
  have HC := Lib.hid h0
  obtain ⟨va, vc, rfl, _⟩ := hv.shape
  have HB := Lib.hid (((Below.refl w.heap.size w).alloc (Nat.le_refl _) (.cells #[.slice va l.length vc] 26)).alloc (by simp) (.cells #[.slice none 0 0] 26))
  have HM := Lib.hid (row_keep (heap_alloc_new w (.cells #[.slice va l.length vc] 26)) ((Below.refl _ _).alloc (Nat.le_refl _) (.cells #[.slice none 0 0] 26)))
  have HR := Lib.hid (show ((w.alloc (.cells #[.slice va l.length vc] 26)).alloc (.cells #[.slice none 0 0] 26)).heap[w.heap.size + 1]? = some (.cells #[.slice none 0 0] 26) by simpa using heap_alloc_new (w.alloc (.cells #[.slice va l.length vc] 26)) (.cells #[.slice none 0 0] 26))
  clear hv hl h0
  go_enter Tryz.func17, Tryz.ntmps17
  go_wp2_with fail
  refine (refRingCheck_any _ _ _ HMX.out _ _ false HC.out _).mono ?_
  rintro e w1 ⟨rfl, hb⟩
  replace HM := Lib.hid (row_keep HM.out hb)
  replace HR := Lib.hid (row_keep HR.out hb)
  replace HB := Lib.hid (HB.out.trans (hb.mono HB.out.size))
  clear hb
  obtain ⟨r0, g0⟩ := at_cell HR.out 0 _ rfl
  obtain ⟨c0, _⟩ := one_cell HM.out
  go_wp2
  refine bodyPost_ret (v := .tuple #[.agg #[.slice va l.length vc], .int .i64 70]) (by simp [results, Tryz.results17, go_sem, r0]) rfl ⟨va, vc, rfl, .inl ⟨rfl, rfl⟩, (HB.out.setCell (by simp) _)⟩

set_option maxHeartbeats 1000000 in
set_option maxRecDepth 100000 in
theorem refReturn_out (v : Value) (l : List UInt8) (b z : Int) (k : Nat) (y0 y1 : Nat) (h0 : okR l.length b z = false) (hl : l.length ≤ 140737488355328) (w : World) (hv : IsArg w v l) :
    Calls Tryz.prog 13 #[.agg #[v], .int .i64 b, .int .i64 z, .int .u16 (k : Nat), .agg #[.int .u32 (y0 : Nat), .int .u32 (y1 : Nat)]] w (Wrote w v l l 70) := by
  have HV := Lib.hid hv
  have HMX := Lib.hid (show l.length ≤ maxLen by unfold maxLen; omega)
  have HC := Lib.hid h0
  obtain ⟨va, vc, rfl, _⟩ := hv.shape
  obtain ⟨t1, t2, t3, t4⟩ := three_new w (.slice va l.length vc) #[.int .u32 (y0 : Nat), .int .u32 (y1 : Nat)] (.slice none 0 0) 26 53 26
  have HB := Lib.hid t4
  have HM := Lib.hid t1
  have HD := Lib.hid t2
  have HR := Lib.hid t3
  clear t1 t2 t3 t4
  clear hv hl h0
  go_enter Tryz.func13, Tryz.ntmps13
  go_wp2_with fail
  refine (refRingCheck_any _ _ _ HMX.out _ _ false HC.out _).mono ?_
  rintro e w1 ⟨rfl, hb⟩
  replace HM := Lib.hid (row_keep HM.out hb)
  replace HR := Lib.hid (row_keep HR.out hb)
  replace HD := Lib.hid (row_keep HD.out hb)
  replace HB := Lib.hid (HB.out.trans (hb.mono HB.out.size))
  clear hb
  obtain ⟨r0, g0⟩ := at_cell HR.out 0 _ rfl
  obtain ⟨c0, _⟩ := one_cell HM.out
  go_wp2
  refine bodyPost_ret (v := .tuple #[.agg #[.slice va l.length vc], .int .i64 70]) (by simp [results, Tryz.results13, go_sem, r0]) rfl ⟨va, vc, rfl, .inl ⟨rfl, rfl⟩, (HB.out.setCell (by simp; omega) _)⟩
end Go.Proofs.YtnmekbbnglkmcaaGreat
/- The document's own answers of rings: what is written; all of them together. -/
namespace Go.Proofs.YtnmekbbnglkmcaaGreat
open Go.RowKit Go.Lib

/-- Memory in its box, that numbers were put into. -/
structure RSt (w : World) (v : Value) (l : List UInt8) (ra : Option Addr) (rc : Nat) (G : List UInt8) (W : World) : Prop where
  out : Below w.heap.size w W
  mem : W.heap[w.heap.size]? = some (.cells #[.slice ra l.length rc] 26 (0, 0))
  giv : Given W w.heap.size v l (.slice ra l.length rc) G
  len : G.length = l.length
theorem RSt.next {w W W1 : World} {v : Value} {l G G' : List UInt8} {ra ra' : Option Addr} {rc rc' : Nat} (h : RSt w v l ra rc G W) (hb : Below W.heap.size W W1) (hg : Given W1 w.heap.size v l (.slice ra' l.length rc') G') (hl : G'.length = l.length) : RSt w v l ra' rc' G' (W1.setCell ⟨w.heap.size, 0, none⟩ (.slice ra' l.length rc')) where
  out := (h.out.trans (hb.mono h.out.size)).setCell (Nat.le_refl _) _
  mem := one_set (row_keep h.mem hb) _
  giv := hg.far (row_keep h.mem hb) tneMU _
  len := hl

structure RngRefOfferX where
  b0 : Bool
  b1 : Bool
  b2 : Bool
  b3 : Bool
  b4 : Bool
  b5 : Bool
  b6 : Bool
  b7 : Bool
  b8 : Bool
  b9 : Bool
  b10 : Bool
  b11 : Bool
  b12 : Bool
  b13 : Bool
  b14 : Bool
  b15 : Bool
  s18 : Value
  s19 : Value
  s20 : Value
  s21 : Value
  s22 : Value
  s23 : Value
  s24 : Value
  s25 : Value
  s26 : Value
  s27 : Value
  s28 : Value
  s29 : Value
  s30 : Value
  s31 : Value
  s32 : Value
structure RngRefOfferBX where
  b0 : Bool
  b1 : Bool
  b2 : Bool
  b3 : Bool
  b4 : Bool
  b5 : Bool
  b6 : Bool
  b7 : Bool
  b8 : Bool
  b9 : Bool
  b10 : Bool
  b11 : Bool
  s33 : Value
  s34 : Value
  s35 : Value
  s36 : Value
  s37 : Value
  s38 : Value
  s39 : Value
  s40 : Value
  s41 : Value
  s42 : Value
  s11 : Value

set_option maxHeartbeats 4000000 in
set_option maxRecDepth 100000 in
theorem refOffer_in (v : Value) (l : List UInt8) (w : World) (hv : IsArg w v l) (B N : Nat) (hok : RingOk l.length B N) (k : Nat) (hk : k < 65536) (h : Int) (p : Nat) (hp : B + 16 * N + 4 + 2 * (k % N) = p) :
    Calls Tryz.prog 17 #[.agg #[v], .int .i64 (B : Nat), .int .i64 (N : Nat), .int .u16 (k : Nat), .int .i64 h] w (Wrote w v l (offerD l B N k (h % 65536).toNat) 0) := by
  have hN := hok.right.le
  have hsz := sizeN_le N
  have hfit := hok.fits
  have hL := hok.few
  have HL := Lib.hid hL
  have HNN := Lib.hid hN
  have HMX := Lib.hid (show l.length ≤ maxLen by unfold maxLen; omega)
  have HC := Lib.hid hok.ok
  have HV := Lib.hid hv
  obtain ⟨va, vc, rfl, _⟩ := hv.shape
  have HB := Lib.hid (((Below.refl w.heap.size w).alloc (Nat.le_refl _) (.cells #[.slice va l.length vc] 26)).alloc (by simp) (.cells #[.slice none 0 0] 26))
  have HM := Lib.hid (row_keep (heap_alloc_new w (.cells #[.slice va l.length vc] 26)) ((Below.refl _ _).alloc (Nat.le_refl _) (.cells #[.slice none 0 0] 26)))
  have HR := Lib.hid (show ((w.alloc (.cells #[.slice va l.length vc] 26)).alloc (.cells #[.slice none 0 0] 26)).heap[w.heap.size + 1]? = some (.cells #[.slice none 0 0] 26) by simpa using heap_alloc_new (w.alloc (.cells #[.slice va l.length vc] 26)) (.cells #[.slice none 0 0] 26))
  obtain ⟨f1, hf1⟩ : ∃ q, q = 16 * N := ⟨_, rfl⟩
  obtain ⟨c1, hc1⟩ : ∃ q, q = B + f1 := ⟨_, rfl⟩
  obtain ⟨c2, hc2⟩ : ∃ q, q = c1 + 4 := ⟨_, rfl⟩
  have e2 : (B : Int) + (f1 : Nat) = (c1 : Nat) := by omega
  have e3 : (c1 : Int) + 4 = (c2 : Nat) := by omega
  have q1 : f1 ≤ 1000 := by omega
  have q2 : c1 ≤ 9000 := by omega
  have hwrc1 : IntKind.i64.wrap ((c1 : Nat) : Int) = (c1 : Nat) := IntWalk.i64_in _ (by omega)
  have hwrc2 : IntKind.i64.wrap ((c2 : Nat) : Int) = (c2 : Nat) := IntWalk.i64_in _ (by omega)
  have HF := Lib.hid (show ∀ W, Calls Tryz.prog 44 #[.int .i64 (N : Nat)] W fun e w' => e = .returned (.int .i64 (f1 : Nat)) ∧ w' = W from fun W => refFirst_any N f1 hf1.symm hN.2 W)
  obtain ⟨j, hj⟩ : ∃ j, k % N = j := ⟨_, rfl⟩
  have hjn : j < N := by rw [← hj]; exact Nat.mod_lt _ (by omega)
  rw [hj] at hp
  obtain ⟨q, hq⟩ : ∃ q, q = 2 * j := ⟨_, rfl⟩
  have htm : ((k : Nat) : Int).tmod ((N : Nat) : Int) = (j : Nat) := by rw [Int.tmod_eq_emod_of_nonneg (by omega)]; omega
  have hz : ¬ (N = 0) := by omega
  have hwj : IntKind.i64.wrap ((j : Nat) : Int) = (j : Nat) := IntWalk.i64_in _ (by omega)
  have hwk : IntKind.i64.wrap ((k : Nat) : Int) = (k : Nat) := IntWalk.i64_in _ (by omega)
  have hem : (k : Int) % (N : Nat) = (j : Nat) := by omega
  have e6 : (2 : Int) * (j : Nat) = (q : Nat) := by omega
  have e7 : (c2 : Int) + (q : Nat) = (p : Nat) := by omega
  have q3 : j ≤ 16 := by omega
  have q4 : q ≤ 1000 := by omega
  have hwrq : IntKind.i64.wrap ((q : Nat) : Int) = (q : Nat) := IntWalk.i64_in _ (by omega)
  have hwrp : IntKind.i64.wrap ((p : Nat) : Int) = (p : Nat) := IntWalk.i64_in _ (by omega)
  obtain ⟨kk, hkk⟩ : ∃ q, q = k + 1 := ⟨_, rfl⟩
  obtain ⟨ix, hix⟩ : ∃ q, q = c1 + 2 := ⟨_, rfl⟩
  have e8 : (c1 : Int) + 2 = (ix : Nat) := by omega
  have e9' : ((k : Nat) : Int) + 1 = (kk : Nat) := by omega
  have k1 : IntKind.u64.wrap ((k : Nat) : Int) = (k : Nat) := IntWalk.u64_in _ (by omega)
  have k2 : IntKind.u64.wrap ((kk : Nat) : Int) = (kk : Nat) := IntWalk.u64_in _ (by omega)
  have k3 : IntKind.u64.wrap (((k : Nat) : Int) + 1) = (kk : Nat) := by rw [e9']; exact k2
  have hwrix : IntKind.i64.wrap ((ix : Nat) : Int) = (ix : Nat) := IntWalk.i64_in _ (by omega)
  obtain ⟨zz, hzz⟩ : ∃ q : Nat, q = (h % 18446744073709551616).toNat := ⟨_, rfl⟩
  have kz : IntKind.u64.wrap h = (zz : Nat) := by rw [wrap64u]; omega
  obtain ⟨G1, hG1⟩ : ∃ G, G = putAt l p 2 zz := ⟨_, rfl⟩
  have hG1l : G1.length = l.length := by rw [hG1]; exact putAt_length zz (by omega)
  obtain ⟨H, hH⟩ : ∃ H, H = putAt G1 ix 2 kk := ⟨_, rfl⟩
  have hHH : offerD l B N k (h % 65536).toNat = H := by
    rw [hH, hG1, offerD, hj, show B + 16 * N + 4 + 2 * j = p by omega, show B + 16 * N + 2 = ix by omega, hkk, putAt_mod l p 2 (show (h % 65536).toNat % 256 ^ 2 = zz % 256 ^ 2 by omega)]
  rw [hHH]
  have HPT0 := Lib.hid (show ∀ W, Below w.heap.size w W → Calls Tryz.prog 35 #[.agg #[.slice va l.length vc], .int .i64 (p : Nat), .int .i64 2, .int .u64 (zz : Nat)] W fun e w' => ∃ ra rc, e = .returned (.agg #[.slice ra l.length rc]) ∧ Given w' w.heap.size (.slice va l.length vc) l (.slice ra l.length rc) G1 ∧ Below W.heap.size W w' from
    fun W hb => (refPut_step hv hb (.inl ⟨rfl, rfl⟩) rfl p 2 zz (by omega) hL (by omega) (by decide) (by decide)).mono fun e w' ⟨ra, rc, g1, g2, _, g4⟩ => ⟨ra, rc, g1, by rw [hG1]; exact g2, g4⟩)
  have HPT1 := Lib.hid (show ∀ (ra : Option Addr) (rc : Nat) W, Below w.heap.size w W → Given W w.heap.size (.slice va l.length vc) l (.slice ra l.length rc) G1 → Calls Tryz.prog 35 #[.agg #[.slice ra l.length rc], .int .i64 (ix : Nat), .int .i64 2, .int .u64 (kk : Nat)] W fun e w' => ∃ sa sc, e = .returned (.agg #[.slice sa l.length sc]) ∧ Given w' w.heap.size (.slice va l.length vc) l (.slice sa l.length sc) H ∧ Below W.heap.size W w' from
    fun ra rc W hb hg => (refPut_step hv hb hg hG1l ix 2 kk (by omega) hL (by omega) (by decide) (by decide)).mono fun e w' ⟨sa, sc, g1, g2, _, g4⟩ => ⟨sa, sc, g1, by rw [hH]; exact g2, g4⟩)
  clear hf1 hc1 hc2 hk hj hq hjn hp hkk hix e9' hzz hG1 hG1l hH hHH
  clear hN hsz hfit hL hok hv
  go_enter Tryz.func17, Tryz.ntmps17
  go_wp2_with fail
  refine (refRingCheck_any _ _ _ HMX.out _ _ true HC.out _).mono ?_
  rintro e w1 ⟨rfl, hb⟩
  replace HM := Lib.hid (row_keep HM.out hb)
  replace HR := Lib.hid (row_keep HR.out hb)
  replace HB := Lib.hid (HB.out.trans (hb.mono HB.out.size))
  clear hb
  go_wp2_with fail
  refine wp_region_rec (X := RngRefOfferX) (by kernel_rfl) (by kernel_rfl) (fun x => #[x.b0, x.b1, x.b2, x.b3, x.b4, x.b5, x.b6, x.b7, x.b8, x.b9, x.b10, x.b11, x.b12, x.b13, x.b14, x.b15]) (fun x => { tmps := List.toArray ((Value.agg #[Value.slice va l.length vc]) :: (Value.int IntKind.i64 ↑B) :: (Value.int IntKind.i64 ↑N) :: (Value.int IntKind.u16 ↑k) :: (Value.int IntKind.i64 h) :: (Value.pointer (some ⟨w.heap.size, 0, none⟩)) :: undef :: undef :: undef :: undef :: (Value.pointer (some ⟨w.heap.size + 1, 0, none⟩)) :: (Value.int IntKind.i64 0) :: (Value.agg #[Value.slice va l.length vc]) :: (Value.int IntKind.i64 ↑B) :: (Value.int IntKind.i64 ↑N) :: (Value.bool true) :: (Value.bool false) :: undef :: x.s18 :: x.s19 :: x.s20 :: x.s21 :: x.s22 :: x.s23 :: x.s24 :: x.s25 :: x.s26 :: x.s27 :: x.s28 :: x.s29 :: x.s30 :: x.s31 :: x.s32 :: undef :: undef :: undef :: undef :: undef :: undef :: undef :: undef :: undef :: undef :: []), defers := [] }) (fun x W => (x.b0 = true → x.s18 = .agg #[.slice va l.length vc]) ∧ (x.b1 = true → x.s19 = .int .i64 (B : Nat)) ∧ (x.b2 = true → x.s20 = .int .i64 (N : Nat)) ∧ (x.b3 = true → x.s21 = .int .i64 (f1 : Nat)) ∧ (x.b4 = true → x.s22 = .int .i64 (c1 : Nat)) ∧ (x.b5 = true → x.s23 = .int .i64 (c2 : Nat)) ∧ (x.b6 = true → x.s24 = .int .u16 (k : Nat)) ∧ (x.b7 = true → x.s25 = .int .i64 (k : Nat)) ∧ (x.b8 = true → x.s26 = .int .i64 (N : Nat)) ∧ (x.b9 = true → x.s27 = .int .i64 (j : Nat)) ∧ (x.b10 = true → x.s28 = .int .i64 (q : Nat)) ∧ (x.b11 = true → x.s29 = .int .i64 (p : Nat)) ∧ (x.b12 = true → x.s30 = .int .i64 h) ∧ (x.b13 = true → x.s31 = .int .u64 (zz : Nat)) ∧ (x.b15 = true → x.b0 = true ∧ x.b14 = true) ∧ (x.b15 = false → W.heap[w.heap.size]? = some (.cells #[.slice va l.length vc] 26 (0, 0))) ∧ (x.b14 = true → ∃ ra rc, x.s32 = .agg #[.slice ra l.length rc] ∧ Given W w.heap.size (.slice va l.length vc) l (.slice ra l.length rc) G1) ∧ (x.b15 = true → ∃ ra rc, W.heap[w.heap.size]? = some (.cells #[.slice ra l.length rc] 26 (0, 0)) ∧ Given W w.heap.size (.slice va l.length vc) l (.slice ra l.length rc) G1) ∧ (W.heap[w.heap.size + 1]? = some (.cells #[.slice none 0 0] 26)) ∧ (Below w.heap.size w W)) ⟨false, false, false, false, false, false, false, false, false, false, false, false, false, false, false, false, undef, undef, undef, undef, undef, undef, undef, undef, undef, undef, undef, undef, undef, undef, undef⟩ rfl rfl ⟨(fun h => by cases h), (fun h => by cases h), (fun h => by cases h), (fun h => by cases h), (fun h => by cases h), (fun h => by cases h), (fun h => by cases h), (fun h => by cases h), (fun h => by cases h), (fun h => by cases h), (fun h => by cases h), (fun h => by cases h), (fun h => by cases h), (fun h => by cases h), (fun h => by cases h), (fun _ => HM.out), (fun h => by cases h), (fun h => by cases h), HR.out, HB.out.drew⟩ (fun _ => rfl) ?hstep ?hdone
  case hstep =>
    rintro ⟨b0, b1, b2, b3, b4, b5, b6, b7, b8, b9, b10, b11, b12, b13, b14, b15, s18, s19, s20, s21, s22, s23, s24, s25, s26, s27, s28, s29, s30, s31, s32⟩ W hI i hi
    dsimp only at hI hi ⊢
    have HI := Lib.hid hI
    clear hI
    rw [Region.ready, List.mem_filter, List.mem_range] at hi
    obtain ⟨hlt, hp⟩ := hi
    have hi7 : i = 0 ∨ i = 1 ∨ i = 2 ∨ i = 3 ∨ i = 4 ∨ i = 5 ∨ i = 6 ∨ i = 7 ∨ i = 8 ∨ i = 9 ∨ i = 10 ∨ i = 11 ∨ i = 12 ∨ i = 13 ∨ i = 14 ∨ i = 15 := by simp at hlt; omega
    clear hlt
    rcases hi7 with rfl | rfl | rfl | rfl | rfl | rfl | rfl | rfl | rfl | rfl | rfl | rfl | rfl | rfl | rfl | rfl
    all_goals simp [Region.binds] at hp
    · have hn0 : b0 = false := by revert hp; cases b0 <;> simp
      clear hp
      subst hn0
      refine inv_op (o := ⟨some 18, _, _, _, _, _⟩) rfl (fun K' hK' => ?_)
      have gE := HI.out.2.2.2.2.2.2.2.2.2.2.2.2.2.2.1
      have gM := HI.out.2.2.2.2.2.2.2.2.2.2.2.2.2.2.2.1
      have hb15 : b15 = false := by cases b15 with | false => rfl | true => exact absurd (gE rfl).1 (by decide)
      subst hb15
      obtain ⟨hc1, hc2⟩ := one_cell (gM rfl)
      go_simp
      obtain ⟨h0, h1, h2, h3, h4, h5, h6, h7, h8, h9, h10, h11, h12, h13, gE, gM, gP, gB, gR, gO⟩ := HI.out
      exact hK'.out _ _ ⟨⟨true, b1, b2, b3, b4, b5, b6, b7, b8, b9, b10, b11, b12, b13, b14, false, _, s19, s20, s21, s22, s23, s24, s25, s26, s27, s28, s29, s30, s31, s32⟩, rfl, rfl, (fun _ => rfl), h1, h2, h3, h4, h5, h6, h7, h8, h9, h10, h11, h12, h13, (fun e => by cases e), gM, gP, gB, gR, gO⟩
    · have hn1 : b1 = false := by revert hp; cases b1 <;> simp
      clear hp
      subst hn1
      refine inv_op (o := ⟨some 19, _, _, _, _, _⟩) rfl (fun K' hK' => ?_)
      go_simp
      obtain ⟨h0, h1, h2, h3, h4, h5, h6, h7, h8, h9, h10, h11, h12, h13, gE, gM, gP, gB, gR, gO⟩ := HI.out
      exact hK'.out _ _ ⟨⟨b0, true, b2, b3, b4, b5, b6, b7, b8, b9, b10, b11, b12, b13, b14, b15, s18, _, s20, s21, s22, s23, s24, s25, s26, s27, s28, s29, s30, s31, s32⟩, rfl, rfl, h0, (fun _ => rfl), h2, h3, h4, h5, h6, h7, h8, h9, h10, h11, h12, h13, gE, gM, gP, gB, gR, gO⟩
    · have hn2 : b2 = false := by revert hp; cases b2 <;> simp
      clear hp
      subst hn2
      refine inv_op (o := ⟨some 20, _, _, _, _, _⟩) rfl (fun K' hK' => ?_)
      go_simp
      obtain ⟨h0, h1, h2, h3, h4, h5, h6, h7, h8, h9, h10, h11, h12, h13, gE, gM, gP, gB, gR, gO⟩ := HI.out
      exact hK'.out _ _ ⟨⟨b0, b1, true, b3, b4, b5, b6, b7, b8, b9, b10, b11, b12, b13, b14, b15, s18, s19, _, s21, s22, s23, s24, s25, s26, s27, s28, s29, s30, s31, s32⟩, rfl, rfl, h0, h1, (fun _ => rfl), h3, h4, h5, h6, h7, h8, h9, h10, h11, h12, h13, gE, gM, gP, gB, gR, gO⟩
    · have hn3 : b3 = false := by revert hp; cases b3 <;> simp
      have e2 : b2 = true := by revert hp; cases b2 <;> simp
      clear hp
      obtain rfl := (HI.out.2.2.1) e2
      subst hn3
      refine inv_op (o := ⟨some 21, _, _, _, _, _⟩) rfl (fun K' hK' => ?_)
      go_simp
      refine (HF.out W).mono ?_
      rintro e w2 ⟨rfl, rfl⟩
      obtain ⟨h0, h1, h2, h3, h4, h5, h6, h7, h8, h9, h10, h11, h12, h13, gE, gM, gP, gB, gR, gO⟩ := HI.out
      exact hK'.out _ _ ⟨⟨b0, b1, b2, true, b4, b5, b6, b7, b8, b9, b10, b11, b12, b13, b14, b15, s18, s19, _, _, s22, s23, s24, s25, s26, s27, s28, s29, s30, s31, s32⟩, rfl, rfl, h0, h1, h2, (fun _ => rfl), h4, h5, h6, h7, h8, h9, h10, h11, h12, h13, gE, gM, gP, gB, gR, gO⟩
    · have hn4 : b4 = false := by revert hp; cases b4 <;> simp
      have e1 : b1 = true := by revert hp; cases b1 <;> simp
      have e3 : b3 = true := by revert hp; cases b3 <;> simp
      clear hp
      obtain rfl := (HI.out.2.1) e1
      obtain rfl := (HI.out.2.2.2.1) e3
      subst hn4
      refine inv_op (o := ⟨some 22, _, _, _, _, _⟩) rfl (fun K' hK' => ?_)
      go_simp
      obtain ⟨h0, h1, h2, h3, h4, h5, h6, h7, h8, h9, h10, h11, h12, h13, gE, gM, gP, gB, gR, gO⟩ := HI.out
      exact hK'.out _ _ ⟨⟨b0, b1, b2, b3, true, b5, b6, b7, b8, b9, b10, b11, b12, b13, b14, b15, s18, _, s20, _, _, s23, s24, s25, s26, s27, s28, s29, s30, s31, s32⟩, rfl, rfl, h0, h1, h2, h3, (fun _ => rfl), h5, h6, h7, h8, h9, h10, h11, h12, h13, gE, gM, gP, gB, gR, gO⟩
    · have hn5 : b5 = false := by revert hp; cases b5 <;> simp
      have e4 : b4 = true := by revert hp; cases b4 <;> simp
      clear hp
      obtain rfl := (HI.out.2.2.2.2.1) e4
      subst hn5
      refine inv_op (o := ⟨some 23, _, _, _, _, _⟩) rfl (fun K' hK' => ?_)
      go_simp
      obtain ⟨h0, h1, h2, h3, h4, h5, h6, h7, h8, h9, h10, h11, h12, h13, gE, gM, gP, gB, gR, gO⟩ := HI.out
      exact hK'.out _ _ ⟨⟨b0, b1, b2, b3, b4, true, b6, b7, b8, b9, b10, b11, b12, b13, b14, b15, s18, s19, s20, s21, _, _, s24, s25, s26, s27, s28, s29, s30, s31, s32⟩, rfl, rfl, h0, h1, h2, h3, h4, (fun _ => rfl), h6, h7, h8, h9, h10, h11, h12, h13, gE, gM, gP, gB, gR, gO⟩
    · have hn6 : b6 = false := by revert hp; cases b6 <;> simp
      clear hp
      subst hn6
      refine inv_op (o := ⟨some 24, _, _, _, _, _⟩) rfl (fun K' hK' => ?_)
      go_simp
      obtain ⟨h0, h1, h2, h3, h4, h5, h6, h7, h8, h9, h10, h11, h12, h13, gE, gM, gP, gB, gR, gO⟩ := HI.out
      exact hK'.out _ _ ⟨⟨b0, b1, b2, b3, b4, b5, true, b7, b8, b9, b10, b11, b12, b13, b14, b15, s18, s19, s20, s21, s22, s23, _, s25, s26, s27, s28, s29, s30, s31, s32⟩, rfl, rfl, h0, h1, h2, h3, h4, h5, (fun _ => rfl), h7, h8, h9, h10, h11, h12, h13, gE, gM, gP, gB, gR, gO⟩
    · have hn7 : b7 = false := by revert hp; cases b7 <;> simp
      have e6 : b6 = true := by revert hp; cases b6 <;> simp
      clear hp
      obtain rfl := (HI.out.2.2.2.2.2.2.1) e6
      subst hn7
      refine inv_op (o := ⟨some 25, _, _, _, _, _⟩) rfl (fun K' hK' => ?_)
      go_simp
      obtain ⟨h0, h1, h2, h3, h4, h5, h6, h7, h8, h9, h10, h11, h12, h13, gE, gM, gP, gB, gR, gO⟩ := HI.out
      exact hK'.out _ _ ⟨⟨b0, b1, b2, b3, b4, b5, b6, true, b8, b9, b10, b11, b12, b13, b14, b15, s18, s19, s20, s21, s22, s23, _, _, s26, s27, s28, s29, s30, s31, s32⟩, rfl, rfl, h0, h1, h2, h3, h4, h5, h6, (fun _ => rfl), h8, h9, h10, h11, h12, h13, gE, gM, gP, gB, gR, gO⟩
    · have hn8 : b8 = false := by revert hp; cases b8 <;> simp
      clear hp
      subst hn8
      refine inv_op (o := ⟨some 26, _, _, _, _, _⟩) rfl (fun K' hK' => ?_)
      go_simp
      obtain ⟨h0, h1, h2, h3, h4, h5, h6, h7, h8, h9, h10, h11, h12, h13, gE, gM, gP, gB, gR, gO⟩ := HI.out
      exact hK'.out _ _ ⟨⟨b0, b1, b2, b3, b4, b5, b6, b7, true, b9, b10, b11, b12, b13, b14, b15, s18, s19, s20, s21, s22, s23, s24, s25, _, s27, s28, s29, s30, s31, s32⟩, rfl, rfl, h0, h1, h2, h3, h4, h5, h6, h7, (fun _ => rfl), h9, h10, h11, h12, h13, gE, gM, gP, gB, gR, gO⟩
    · have hn9 : b9 = false := by revert hp; cases b9 <;> simp
      have e7 : b7 = true := by revert hp; cases b7 <;> simp
      have e8 : b8 = true := by revert hp; cases b8 <;> simp
      clear hp
      obtain rfl := (HI.out.2.2.2.2.2.2.2.1) e7
      obtain rfl := (HI.out.2.2.2.2.2.2.2.2.1) e8
      subst hn9
      refine inv_op (o := ⟨some 27, _, _, _, _, _⟩) rfl (fun K' hK' => ?_)
      go_simp
      obtain ⟨h0, h1, h2, h3, h4, h5, h6, h7, h8, h9, h10, h11, h12, h13, gE, gM, gP, gB, gR, gO⟩ := HI.out
      exact hK'.out _ _ ⟨⟨b0, b1, b2, b3, b4, b5, b6, b7, b8, true, b10, b11, b12, b13, b14, b15, s18, s19, s20, s21, s22, s23, s24, _, _, _, s28, s29, s30, s31, s32⟩, rfl, rfl, h0, h1, h2, h3, h4, h5, h6, h7, h8, (fun _ => rfl), h10, h11, h12, h13, gE, gM, gP, gB, gR, gO⟩
    · have hn10 : b10 = false := by revert hp; cases b10 <;> simp
      have e9 : b9 = true := by revert hp; cases b9 <;> simp
      clear hp
      obtain rfl := (HI.out.2.2.2.2.2.2.2.2.2.1) e9
      subst hn10
      refine inv_op (o := ⟨some 28, _, _, _, _, _⟩) rfl (fun K' hK' => ?_)
      go_simp
      obtain ⟨h0, h1, h2, h3, h4, h5, h6, h7, h8, h9, h10, h11, h12, h13, gE, gM, gP, gB, gR, gO⟩ := HI.out
      exact hK'.out _ _ ⟨⟨b0, b1, b2, b3, b4, b5, b6, b7, b8, b9, true, b11, b12, b13, b14, b15, s18, s19, s20, s21, s22, s23, s24, s25, s26, _, _, s29, s30, s31, s32⟩, rfl, rfl, h0, h1, h2, h3, h4, h5, h6, h7, h8, h9, (fun _ => rfl), h11, h12, h13, gE, gM, gP, gB, gR, gO⟩
    · have hn11 : b11 = false := by revert hp; cases b11 <;> simp
      have e5 : b5 = true := by revert hp; cases b5 <;> simp
      have e10 : b10 = true := by revert hp; cases b10 <;> simp
      clear hp
      obtain rfl := (HI.out.2.2.2.2.2.1) e5
      obtain rfl := (HI.out.2.2.2.2.2.2.2.2.2.2.1) e10
      subst hn11
      refine inv_op (o := ⟨some 29, _, _, _, _, _⟩) rfl (fun K' hK' => ?_)
      go_simp
      obtain ⟨h0, h1, h2, h3, h4, h5, h6, h7, h8, h9, h10, h11, h12, h13, gE, gM, gP, gB, gR, gO⟩ := HI.out
      exact hK'.out _ _ ⟨⟨b0, b1, b2, b3, b4, b5, b6, b7, b8, b9, b10, true, b12, b13, b14, b15, s18, s19, s20, s21, s22, _, s24, s25, s26, s27, _, _, s30, s31, s32⟩, rfl, rfl, h0, h1, h2, h3, h4, h5, h6, h7, h8, h9, h10, (fun _ => rfl), h12, h13, gE, gM, gP, gB, gR, gO⟩
    · have hn12 : b12 = false := by revert hp; cases b12 <;> simp
      clear hp
      subst hn12
      refine inv_op (o := ⟨some 30, _, _, _, _, _⟩) rfl (fun K' hK' => ?_)
      go_simp
      obtain ⟨h0, h1, h2, h3, h4, h5, h6, h7, h8, h9, h10, h11, h12, h13, gE, gM, gP, gB, gR, gO⟩ := HI.out
      exact hK'.out _ _ ⟨⟨b0, b1, b2, b3, b4, b5, b6, b7, b8, b9, b10, b11, true, b13, b14, b15, s18, s19, s20, s21, s22, s23, s24, s25, s26, s27, s28, s29, _, s31, s32⟩, rfl, rfl, h0, h1, h2, h3, h4, h5, h6, h7, h8, h9, h10, h11, (fun _ => rfl), h13, gE, gM, gP, gB, gR, gO⟩
    · have hn13 : b13 = false := by revert hp; cases b13 <;> simp
      have e12 : b12 = true := by revert hp; cases b12 <;> simp
      clear hp
      obtain rfl := (HI.out.2.2.2.2.2.2.2.2.2.2.2.2.1) e12
      subst hn13
      refine inv_op (o := ⟨some 31, _, _, _, _, _⟩) rfl (fun K' hK' => ?_)
      go_simp
      obtain ⟨h0, h1, h2, h3, h4, h5, h6, h7, h8, h9, h10, h11, h12, h13, gE, gM, gP, gB, gR, gO⟩ := HI.out
      exact hK'.out _ _ ⟨⟨b0, b1, b2, b3, b4, b5, b6, b7, b8, b9, b10, b11, b12, true, b14, b15, s18, s19, s20, s21, s22, s23, s24, s25, s26, s27, s28, s29, _, _, s32⟩, rfl, rfl, h0, h1, h2, h3, h4, h5, h6, h7, h8, h9, h10, h11, h12, (fun _ => rfl), gE, gM, gP, gB, gR, gO⟩
    · have hn14 : b14 = false := by revert hp; cases b14 <;> simp
      have e0 : b0 = true := by revert hp; cases b0 <;> simp
      have e11 : b11 = true := by revert hp; cases b11 <;> simp
      have e13 : b13 = true := by revert hp; cases b13 <;> simp
      clear hp
      obtain rfl := (HI.out.1) e0
      obtain rfl := (HI.out.2.2.2.2.2.2.2.2.2.2.2.1) e11
      obtain rfl := (HI.out.2.2.2.2.2.2.2.2.2.2.2.2.2.1) e13
      subst hn14
      refine inv_op (o := ⟨some 32, _, _, _, _, _⟩) rfl (fun K' hK' => ?_)
      have gE := HI.out.2.2.2.2.2.2.2.2.2.2.2.2.2.2.1
      have gO := HI.out.2.2.2.2.2.2.2.2.2.2.2.2.2.2.2.2.2.2.2
      have hb15 : b15 = false := by cases b15 with | false => rfl | true => exact absurd (gE rfl).2 (by decide)
      subst hb15
      go_simp
      refine (HPT0.out W gO).mono ?_
      rintro e w2 ⟨ra, rc, rfl, hg, bn⟩
      obtain ⟨h0, h1, h2, h3, h4, h5, h6, h7, h8, h9, h10, h11, h12, h13, gE, gM, gP, gB, gR, gO⟩ := HI.out
      exact hK'.out _ _ ⟨⟨b0, b1, b2, b3, b4, b5, b6, b7, b8, b9, b10, b11, b12, b13, true, false, _, s19, s20, s21, s22, s23, s24, s25, s26, s27, s28, _, s30, _, _⟩, rfl, rfl, h0, h1, h2, h3, h4, h5, h6, h7, h8, h9, h10, h11, h12, h13, (fun e => by cases e), (fun e => row_keep (gM e) bn), (fun _ => ⟨ra, rc, rfl, hg⟩), (fun e => by cases e), (row_keep gR bn), (gO.trans (bn.mono gO.size))⟩
    · have hn15 : b15 = false := by revert hp; cases b15 <;> simp
      have e0 : b0 = true := by revert hp; cases b0 <;> simp
      have e1 : b1 = true := by revert hp; cases b1 <;> simp
      have e2 : b2 = true := by revert hp; cases b2 <;> simp
      have e3 : b3 = true := by revert hp; cases b3 <;> simp
      have e4 : b4 = true := by revert hp; cases b4 <;> simp
      have e5 : b5 = true := by revert hp; cases b5 <;> simp
      have e6 : b6 = true := by revert hp; cases b6 <;> simp
      have e7 : b7 = true := by revert hp; cases b7 <;> simp
      have e8 : b8 = true := by revert hp; cases b8 <;> simp
      have e9 : b9 = true := by revert hp; cases b9 <;> simp
      have e10 : b10 = true := by revert hp; cases b10 <;> simp
      have e11 : b11 = true := by revert hp; cases b11 <;> simp
      have e12 : b12 = true := by revert hp; cases b12 <;> simp
      have e13 : b13 = true := by revert hp; cases b13 <;> simp
      have e14 : b14 = true := by revert hp; cases b14 <;> simp
      clear hp
      subst hn15
      refine inv_op (o := ⟨none, _, _, _, _, _⟩) rfl (fun K' hK' => ?_)
      have gM := HI.out.2.2.2.2.2.2.2.2.2.2.2.2.2.2.2.1
      have gP := HI.out.2.2.2.2.2.2.2.2.2.2.2.2.2.2.2.2.1
      obtain ⟨ra, rc, rfl, hg⟩ := gP e14
      have hrow := gM rfl
      obtain ⟨hc1, hc2⟩ := one_cell hrow
      go_simp
      obtain ⟨h0, h1, h2, h3, h4, h5, h6, h7, h8, h9, h10, h11, h12, h13, gE, gM, gP, gB, gR, gO⟩ := HI.out
      exact hK'.out _ _ ⟨⟨b0, b1, b2, b3, b4, b5, b6, b7, b8, b9, b10, b11, b12, b13, b14, true, s18, s19, s20, s21, s22, s23, s24, s25, s26, s27, s28, s29, s30, s31, _⟩, rfl, rfl, h0, h1, h2, h3, h4, h5, h6, h7, h8, h9, h10, h11, h12, h13, (fun _ => ⟨e0, e14⟩), (fun e => by cases e), (fun _ => ⟨ra, rc, rfl, hg.far hrow tneMU _⟩), (fun _ => ⟨ra, rc, one_set hrow _, hg.far hrow tneMU _⟩), (one_other gR _ _ (by simp)), (gO.setCell (Nat.le_refl _) _)⟩
  case hdone =>
    rintro ⟨b0, b1, b2, b3, b4, b5, b6, b7, b8, b9, b10, b11, b12, b13, b14, b15, s18, s19, s20, s21, s22, s23, s24, s25, s26, s27, s28, s29, s30, s31, s32⟩ W hI hall
    dsimp only at hI hall ⊢
    have HI := Lib.hid hI
    clear hI
    obtain rfl : b0 = true := hall 0 (by decide)
    obtain rfl : b1 = true := hall 1 (by decide)
    obtain rfl : b2 = true := hall 2 (by decide)
    obtain rfl : b3 = true := hall 3 (by decide)
    obtain rfl : b4 = true := hall 4 (by decide)
    obtain rfl : b5 = true := hall 5 (by decide)
    obtain rfl : b6 = true := hall 6 (by decide)
    obtain rfl : b7 = true := hall 7 (by decide)
    obtain rfl : b8 = true := hall 8 (by decide)
    obtain rfl : b9 = true := hall 9 (by decide)
    obtain rfl : b10 = true := hall 10 (by decide)
    obtain rfl : b11 = true := hall 11 (by decide)
    obtain rfl : b12 = true := hall 12 (by decide)
    obtain rfl : b13 = true := hall 13 (by decide)
    obtain rfl : b14 = true := hall 14 (by decide)
    obtain rfl : b15 = true := hall 15 (by decide)
    obtain rfl := (HI.out.1) rfl
    obtain rfl := (HI.out.2.1) rfl
    obtain rfl := (HI.out.2.2.1) rfl
    obtain rfl := (HI.out.2.2.2.1) rfl
    obtain rfl := (HI.out.2.2.2.2.1) rfl
    obtain rfl := (HI.out.2.2.2.2.2.1) rfl
    obtain rfl := (HI.out.2.2.2.2.2.2.1) rfl
    obtain rfl := (HI.out.2.2.2.2.2.2.2.1) rfl
    obtain rfl := (HI.out.2.2.2.2.2.2.2.2.1) rfl
    obtain rfl := (HI.out.2.2.2.2.2.2.2.2.2.1) rfl
    obtain rfl := (HI.out.2.2.2.2.2.2.2.2.2.2.1) rfl
    obtain rfl := (HI.out.2.2.2.2.2.2.2.2.2.2.2.1) rfl
    obtain rfl := (HI.out.2.2.2.2.2.2.2.2.2.2.2.2.1) rfl
    obtain rfl := (HI.out.2.2.2.2.2.2.2.2.2.2.2.2.2.1) rfl
    have gB := HI.out.2.2.2.2.2.2.2.2.2.2.2.2.2.2.2.2.2.1
    have gR := HI.out.2.2.2.2.2.2.2.2.2.2.2.2.2.2.2.2.2.2.1
    have gO := HI.out.2.2.2.2.2.2.2.2.2.2.2.2.2.2.2.2.2.2.2
    clear HI hall
    obtain ⟨w2, hw2⟩ : ∃ u, u = W := ⟨_, rfl⟩
    subst hw2
    obtain ⟨u32, hu32⟩ : ∃ u, u = s32 := ⟨_, rfl⟩
    subst hu32
    obtain ⟨ra, rc, hrow, hg⟩ := gB rfl
    replace HM := Lib.hid hrow
    replace HR := Lib.hid gR
    replace HB := Lib.hid gO
    have HG1 := Lib.hid hg
    have HPT := Lib.hid (HPT1.out ra rc)
    clear hrow hg gB gR gO HPT0 HPT1
    clear htm hz hwj hwk hem e3 e6 e7 kz
    go_wp2_with fail
    refine wp_region_rec (X := RngRefOfferBX) (by kernel_rfl) (by kernel_rfl) (fun x => #[x.b0, x.b1, x.b2, x.b3, x.b4, x.b5, x.b6, x.b7, x.b8, x.b9, x.b10, x.b11]) (fun x => { tmps := List.toArray ((Value.agg #[Value.slice va l.length vc]) :: (Value.int IntKind.i64 ↑B) :: (Value.int IntKind.i64 ↑N) :: (Value.int IntKind.u16 ↑k) :: (Value.int IntKind.i64 h) :: (Value.pointer (some ⟨w.heap.size, 0, none⟩)) :: undef :: undef :: undef :: undef :: (Value.pointer (some ⟨w.heap.size + 1, 0, none⟩)) :: x.s11 :: (Value.agg #[Value.slice va l.length vc]) :: (Value.int IntKind.i64 ↑B) :: (Value.int IntKind.i64 ↑N) :: (Value.bool true) :: (Value.bool false) :: undef :: (Value.agg #[Value.slice va l.length vc]) :: (Value.int IntKind.i64 ↑B) :: (Value.int IntKind.i64 ↑N) :: (Value.int IntKind.i64 ↑f1) :: (Value.int IntKind.i64 ↑c1) :: (Value.int IntKind.i64 ↑c2) :: (Value.int IntKind.u16 ↑k) :: (Value.int IntKind.i64 ↑k) :: (Value.int IntKind.i64 ↑N) :: (Value.int IntKind.i64 ↑j) :: (Value.int IntKind.i64 ↑q) :: (Value.int IntKind.i64 ↑p) :: (Value.int IntKind.i64 h) :: (Value.int IntKind.u64 ↑zz) :: u32 :: x.s33 :: x.s34 :: x.s35 :: x.s36 :: x.s37 :: x.s38 :: x.s39 :: x.s40 :: x.s41 :: x.s42 :: []), defers := [] }) (fun x W => (x.b0 = true → x.s33 = .agg #[.slice ra l.length rc]) ∧ (x.b1 = true → x.s34 = .int .i64 (B : Nat)) ∧ (x.b2 = true → x.s35 = .int .i64 (N : Nat)) ∧ (x.b3 = true → x.s36 = .int .i64 (f1 : Nat)) ∧ (x.b4 = true → x.s37 = .int .i64 (c1 : Nat)) ∧ (x.b5 = true → x.s38 = .int .i64 (ix : Nat)) ∧ (x.b6 = true → x.s39 = .int .u16 (k : Nat)) ∧ (x.b7 = true → x.s40 = .int .u64 (k : Nat)) ∧ (x.b8 = true → x.s41 = .int .u64 (kk : Nat)) ∧ (x.b11 = true → x.s11 = .int .i64 0) ∧ (W.heap[w.heap.size]? = some (.cells #[.slice ra l.length rc] 26 (0, 0))) ∧ (x.b9 = false → Given W w.heap.size (.slice va l.length vc) l (.slice ra l.length rc) G1) ∧ (x.b9 = true → ∃ sa sc, x.s42 = .agg #[.slice sa l.length sc] ∧ Given W w.heap.size (.slice va l.length vc) l (.slice sa l.length sc) H) ∧ (x.b10 = false → W.heap[w.heap.size + 1]? = some (.cells #[.slice none 0 0] 26)) ∧ (x.b10 = true → ∃ sa sc, W.heap[w.heap.size + 1]? = some (.cells #[.slice sa l.length sc] 26 (0, 0)) ∧ Given W w.heap.size (.slice va l.length vc) l (.slice sa l.length sc) H) ∧ (x.b10 = true → x.b9 = true) ∧ (Below w.heap.size w W)) ⟨false, false, false, false, false, false, false, false, false, false, false, false, undef, undef, undef, undef, undef, undef, undef, undef, undef, undef, Value.int IntKind.i64 0⟩ rfl rfl ⟨(fun h => by cases h), (fun h => by cases h), (fun h => by cases h), (fun h => by cases h), (fun h => by cases h), (fun h => by cases h), (fun h => by cases h), (fun h => by cases h), (fun h => by cases h), (fun h => by cases h), HM.out, (fun _ => HG1.out.below ((Below.refl _ _).drew)), (fun h => by cases h), (fun _ => HR.out), (fun h => by cases h), (fun h => by cases h), HB.out.drew⟩ (fun _ => rfl) ?hstep ?hdone
    case hstep =>
      rintro ⟨b0, b1, b2, b3, b4, b5, b6, b7, b8, b9, b10, b11, s33, s34, s35, s36, s37, s38, s39, s40, s41, s42, s11⟩ W hI i hi
      dsimp only at hI hi ⊢
      have HI := Lib.hid hI
      clear hI
      rw [Region.ready, List.mem_filter, List.mem_range] at hi
      obtain ⟨hlt, hp⟩ := hi
      have hi7 : i = 0 ∨ i = 1 ∨ i = 2 ∨ i = 3 ∨ i = 4 ∨ i = 5 ∨ i = 6 ∨ i = 7 ∨ i = 8 ∨ i = 9 ∨ i = 10 ∨ i = 11 := by simp at hlt; omega
      clear hlt
      rcases hi7 with rfl | rfl | rfl | rfl | rfl | rfl | rfl | rfl | rfl | rfl | rfl | rfl
      all_goals simp [Region.binds] at hp
      · have hn0 : b0 = false := by revert hp; cases b0 <;> simp
        clear hp
        subst hn0
        refine inv_op (o := ⟨some 33, _, _, _, _, _⟩) rfl (fun K' hK' => ?_)
        have gM := HI.out.2.2.2.2.2.2.2.2.2.2.1
        obtain ⟨hc1, hc2⟩ := one_cell gM
        go_simp
        obtain ⟨h0, h1, h2, h3, h4, h5, h6, h7, h8, h11, gM, gG, gP, gR, gB, gC, gO⟩ := HI.out
        exact hK'.out _ _ ⟨⟨true, b1, b2, b3, b4, b5, b6, b7, b8, b9, b10, b11, _, s34, s35, s36, s37, s38, s39, s40, s41, s42, s11⟩, rfl, rfl, (fun _ => rfl), h1, h2, h3, h4, h5, h6, h7, h8, h11, gM, gG, gP, gR, gB, gC, gO⟩
      · have hn1 : b1 = false := by revert hp; cases b1 <;> simp
        clear hp
        subst hn1
        refine inv_op (o := ⟨some 34, _, _, _, _, _⟩) rfl (fun K' hK' => ?_)
        go_simp
        obtain ⟨h0, h1, h2, h3, h4, h5, h6, h7, h8, h11, gM, gG, gP, gR, gB, gC, gO⟩ := HI.out
        exact hK'.out _ _ ⟨⟨b0, true, b2, b3, b4, b5, b6, b7, b8, b9, b10, b11, s33, _, s35, s36, s37, s38, s39, s40, s41, s42, s11⟩, rfl, rfl, h0, (fun _ => rfl), h2, h3, h4, h5, h6, h7, h8, h11, gM, gG, gP, gR, gB, gC, gO⟩
      · have hn2 : b2 = false := by revert hp; cases b2 <;> simp
        clear hp
        subst hn2
        refine inv_op (o := ⟨some 35, _, _, _, _, _⟩) rfl (fun K' hK' => ?_)
        go_simp
        obtain ⟨h0, h1, h2, h3, h4, h5, h6, h7, h8, h11, gM, gG, gP, gR, gB, gC, gO⟩ := HI.out
        exact hK'.out _ _ ⟨⟨b0, b1, true, b3, b4, b5, b6, b7, b8, b9, b10, b11, s33, s34, _, s36, s37, s38, s39, s40, s41, s42, s11⟩, rfl, rfl, h0, h1, (fun _ => rfl), h3, h4, h5, h6, h7, h8, h11, gM, gG, gP, gR, gB, gC, gO⟩
      · have hn3 : b3 = false := by revert hp; cases b3 <;> simp
        have e2 : b2 = true := by revert hp; cases b2 <;> simp
        clear hp
        obtain rfl := (HI.out.2.2.1) e2
        subst hn3
        refine inv_op (o := ⟨some 36, _, _, _, _, _⟩) rfl (fun K' hK' => ?_)
        go_simp
        refine (HF.out W).mono ?_
        rintro e w2 ⟨rfl, rfl⟩
        obtain ⟨h0, h1, h2, h3, h4, h5, h6, h7, h8, h11, gM, gG, gP, gR, gB, gC, gO⟩ := HI.out
        exact hK'.out _ _ ⟨⟨b0, b1, b2, true, b4, b5, b6, b7, b8, b9, b10, b11, s33, s34, _, _, s37, s38, s39, s40, s41, s42, s11⟩, rfl, rfl, h0, h1, h2, (fun _ => rfl), h4, h5, h6, h7, h8, h11, gM, gG, gP, gR, gB, gC, gO⟩
      · have hn4 : b4 = false := by revert hp; cases b4 <;> simp
        have e1 : b1 = true := by revert hp; cases b1 <;> simp
        have e3 : b3 = true := by revert hp; cases b3 <;> simp
        clear hp
        obtain rfl := (HI.out.2.1) e1
        obtain rfl := (HI.out.2.2.2.1) e3
        subst hn4
        refine inv_op (o := ⟨some 37, _, _, _, _, _⟩) rfl (fun K' hK' => ?_)
        go_simp
        obtain ⟨h0, h1, h2, h3, h4, h5, h6, h7, h8, h11, gM, gG, gP, gR, gB, gC, gO⟩ := HI.out
        exact hK'.out _ _ ⟨⟨b0, b1, b2, b3, true, b5, b6, b7, b8, b9, b10, b11, s33, _, s35, _, _, s38, s39, s40, s41, s42, s11⟩, rfl, rfl, h0, h1, h2, h3, (fun _ => rfl), h5, h6, h7, h8, h11, gM, gG, gP, gR, gB, gC, gO⟩
      · have hn5 : b5 = false := by revert hp; cases b5 <;> simp
        have e4 : b4 = true := by revert hp; cases b4 <;> simp
        clear hp
        obtain rfl := (HI.out.2.2.2.2.1) e4
        subst hn5
        refine inv_op (o := ⟨some 38, _, _, _, _, _⟩) rfl (fun K' hK' => ?_)
        go_simp
        obtain ⟨h0, h1, h2, h3, h4, h5, h6, h7, h8, h11, gM, gG, gP, gR, gB, gC, gO⟩ := HI.out
        exact hK'.out _ _ ⟨⟨b0, b1, b2, b3, b4, true, b6, b7, b8, b9, b10, b11, s33, s34, s35, s36, _, _, s39, s40, s41, s42, s11⟩, rfl, rfl, h0, h1, h2, h3, h4, (fun _ => rfl), h6, h7, h8, h11, gM, gG, gP, gR, gB, gC, gO⟩
      · have hn6 : b6 = false := by revert hp; cases b6 <;> simp
        clear hp
        subst hn6
        refine inv_op (o := ⟨some 39, _, _, _, _, _⟩) rfl (fun K' hK' => ?_)
        go_simp
        obtain ⟨h0, h1, h2, h3, h4, h5, h6, h7, h8, h11, gM, gG, gP, gR, gB, gC, gO⟩ := HI.out
        exact hK'.out _ _ ⟨⟨b0, b1, b2, b3, b4, b5, true, b7, b8, b9, b10, b11, s33, s34, s35, s36, s37, s38, _, s40, s41, s42, s11⟩, rfl, rfl, h0, h1, h2, h3, h4, h5, (fun _ => rfl), h7, h8, h11, gM, gG, gP, gR, gB, gC, gO⟩
      · have hn7 : b7 = false := by revert hp; cases b7 <;> simp
        have e6 : b6 = true := by revert hp; cases b6 <;> simp
        clear hp
        obtain rfl := (HI.out.2.2.2.2.2.2.1) e6
        subst hn7
        refine inv_op (o := ⟨some 40, _, _, _, _, _⟩) rfl (fun K' hK' => ?_)
        go_simp
        obtain ⟨h0, h1, h2, h3, h4, h5, h6, h7, h8, h11, gM, gG, gP, gR, gB, gC, gO⟩ := HI.out
        exact hK'.out _ _ ⟨⟨b0, b1, b2, b3, b4, b5, b6, true, b8, b9, b10, b11, s33, s34, s35, s36, s37, s38, _, _, s41, s42, s11⟩, rfl, rfl, h0, h1, h2, h3, h4, h5, h6, (fun _ => rfl), h8, h11, gM, gG, gP, gR, gB, gC, gO⟩
      · have hn8 : b8 = false := by revert hp; cases b8 <;> simp
        have e7 : b7 = true := by revert hp; cases b7 <;> simp
        clear hp
        obtain rfl := (HI.out.2.2.2.2.2.2.2.1) e7
        subst hn8
        refine inv_op (o := ⟨some 41, _, _, _, _, _⟩) rfl (fun K' hK' => ?_)
        go_simp
        obtain ⟨h0, h1, h2, h3, h4, h5, h6, h7, h8, h11, gM, gG, gP, gR, gB, gC, gO⟩ := HI.out
        exact hK'.out _ _ ⟨⟨b0, b1, b2, b3, b4, b5, b6, b7, true, b9, b10, b11, s33, s34, s35, s36, s37, s38, s39, _, _, s42, s11⟩, rfl, rfl, h0, h1, h2, h3, h4, h5, h6, h7, (fun _ => rfl), h11, gM, gG, gP, gR, gB, gC, gO⟩
      · have hn9 : b9 = false := by revert hp; cases b9 <;> simp
        have e0 : b0 = true := by revert hp; cases b0 <;> simp
        have e5 : b5 = true := by revert hp; cases b5 <;> simp
        have e8 : b8 = true := by revert hp; cases b8 <;> simp
        clear hp
        obtain rfl := (HI.out.1) e0
        obtain rfl := (HI.out.2.2.2.2.2.1) e5
        obtain rfl := (HI.out.2.2.2.2.2.2.2.2.1) e8
        subst hn9
        refine inv_op (o := ⟨some 42, _, _, _, _, _⟩) rfl (fun K' hK' => ?_)
        have gG := HI.out.2.2.2.2.2.2.2.2.2.2.2.1
        have gO := HI.out.2.2.2.2.2.2.2.2.2.2.2.2.2.2.2.2
        go_simp
        refine (HPT.out W gO (gG rfl)).mono ?_
        rintro e w9 ⟨sa, sc, rfl, hg, bn⟩
        obtain ⟨h0, h1, h2, h3, h4, h5, h6, h7, h8, h11, gM, gG, gP, gR, gB, gC, gO⟩ := HI.out
        exact hK'.out _ _ ⟨⟨b0, b1, b2, b3, b4, b5, b6, b7, b8, true, b10, b11, _, s34, s35, s36, s37, _, s39, s40, _, _, s11⟩, rfl, rfl, h0, h1, h2, h3, h4, h5, h6, h7, h8, h11, (row_keep gM bn), (fun e => by cases e), (fun _ => ⟨sa, sc, rfl, hg⟩), (fun e => row_keep (gR e) bn), (fun e => by have h9 := gC e; cases h9), (fun _ => rfl), (gO.trans (bn.mono gO.size))⟩
      · have hn10 : b10 = false := by revert hp; cases b10 <;> simp
        have e0 : b0 = true := by revert hp; cases b0 <;> simp
        have e1 : b1 = true := by revert hp; cases b1 <;> simp
        have e2 : b2 = true := by revert hp; cases b2 <;> simp
        have e3 : b3 = true := by revert hp; cases b3 <;> simp
        have e4 : b4 = true := by revert hp; cases b4 <;> simp
        have e5 : b5 = true := by revert hp; cases b5 <;> simp
        have e6 : b6 = true := by revert hp; cases b6 <;> simp
        have e7 : b7 = true := by revert hp; cases b7 <;> simp
        have e8 : b8 = true := by revert hp; cases b8 <;> simp
        have e9 : b9 = true := by revert hp; cases b9 <;> simp
        clear hp
        subst hn10
        refine inv_op (o := ⟨none, _, _, _, _, _⟩) rfl (fun K' hK' => ?_)
        have gP := HI.out.2.2.2.2.2.2.2.2.2.2.2.2.1
        have gR := HI.out.2.2.2.2.2.2.2.2.2.2.2.2.2.1
        obtain ⟨sa, sc, rfl, hg⟩ := gP e9
        have hrow := gR rfl
        obtain ⟨hc1, hc2⟩ := one_cell hrow
        go_simp
        obtain ⟨h0, h1, h2, h3, h4, h5, h6, h7, h8, h11, gM, gG, gP, gR, gB, gC, gO⟩ := HI.out
        exact hK'.out _ _ ⟨⟨b0, b1, b2, b3, b4, b5, b6, b7, b8, b9, true, b11, s33, s34, s35, s36, s37, s38, s39, s40, s41, _, s11⟩, rfl, rfl, h0, h1, h2, h3, h4, h5, h6, h7, h8, h11, (one_other gM _ _ (by simp; try omega)), (fun e => by rw [e9] at e; cases e), (fun _ => ⟨sa, sc, rfl, hg.far hrow tneMU _⟩), (fun e => by cases e), (fun _ => ⟨sa, sc, one_set hrow _, hg.far hrow tneMU _⟩), (fun _ => e9), (gO.setCell (by simp; try omega) _)⟩
      · have hn11 : b11 = false := by revert hp; cases b11 <;> simp
        clear hp
        subst hn11
        refine inv_op (o := ⟨some 11, _, _, _, _, _⟩) rfl (fun K' hK' => ?_)
        go_simp
        obtain ⟨h0, h1, h2, h3, h4, h5, h6, h7, h8, h11, gM, gG, gP, gR, gB, gC, gO⟩ := HI.out
        exact hK'.out _ _ ⟨⟨b0, b1, b2, b3, b4, b5, b6, b7, b8, b9, b10, true, s33, s34, s35, s36, s37, s38, s39, s40, s41, s42, _⟩, rfl, rfl, h0, h1, h2, h3, h4, h5, h6, h7, h8, (fun _ => rfl), gM, gG, gP, gR, gB, gC, gO⟩
    case hdone =>
      rintro ⟨b0, b1, b2, b3, b4, b5, b6, b7, b8, b9, b10, b11, s33, s34, s35, s36, s37, s38, s39, s40, s41, s42, s11⟩ W hI hall
      dsimp only at hI hall ⊢
      have HI := Lib.hid hI
      clear hI
      obtain rfl : b0 = true := hall 0 (by decide)
      obtain rfl : b1 = true := hall 1 (by decide)
      obtain rfl : b2 = true := hall 2 (by decide)
      obtain rfl : b3 = true := hall 3 (by decide)
      obtain rfl : b4 = true := hall 4 (by decide)
      obtain rfl : b5 = true := hall 5 (by decide)
      obtain rfl : b6 = true := hall 6 (by decide)
      obtain rfl : b7 = true := hall 7 (by decide)
      obtain rfl : b8 = true := hall 8 (by decide)
      obtain rfl : b9 = true := hall 9 (by decide)
      obtain rfl : b10 = true := hall 10 (by decide)
      obtain rfl : b11 = true := hall 11 (by decide)
      obtain rfl := (HI.out.2.2.2.2.2.2.2.2.2.1) rfl
      have gB := HI.out.2.2.2.2.2.2.2.2.2.2.2.2.2.2.1
      have gO := HI.out.2.2.2.2.2.2.2.2.2.2.2.2.2.2.2.2
      clear HI hall
      obtain ⟨sa, sc, hrow, hg⟩ := gB rfl
      obtain ⟨r0, f0⟩ := one_cell hrow
      have HG9 := Lib.hid hg
      have HO9 := Lib.hid gO
      clear hrow hg gB gO f0
      go_wp2
      refine bodyPost_ret (v := .tuple #[.agg #[.slice sa l.length sc], .int .i64 0]) (by simp [results, Tryz.results17, go_sem, r0]) rfl ⟨sa, sc, rfl, HG9.out, HO9.out⟩
structure RngRefReturnBX where
  b0 : Bool
  b1 : Bool
  b2 : Bool
  b3 : Bool
  b4 : Bool
  b5 : Bool
  b6 : Bool
  b7 : Bool
  b8 : Bool
  b9 : Bool
  b10 : Bool
  b11 : Bool
  s43 : Value
  s44 : Value
  s45 : Value
  s46 : Value
  s47 : Value
  s48 : Value
  s49 : Value
  s50 : Value
  s51 : Value
  s52 : Value
  s11 : Value

set_option maxHeartbeats 4000000 in
set_option maxRecDepth 100000 in
theorem refReturn_in (v : Value) (l : List UInt8) (w : World) (hv : IsArg w v l) (B N : Nat) (hok : RingOk l.length B N) (k : Nat) (hk : k < 65536) (y0 y1 : Nat) (hy0 : y0 < 4294967296) (hy1 : y1 < 4294967296) (p : Nat) (hp : B + secN N + 4 + 8 * (k % N) = p) :
    Calls Tryz.prog 13 #[.agg #[v], .int .i64 (B : Nat), .int .i64 (N : Nat), .int .u16 (k : Nat), .agg #[.int .u32 (y0 : Nat), .int .u32 (y1 : Nat)]] w (Wrote w v l (returnD l B N k y0 y1) 0) := by
  have hN := hok.right.le
  have hsz := sizeN_le N
  have hfit := hok.fits
  have hL := hok.few
  have HL := Lib.hid hL
  have HNN := Lib.hid hN
  have HMX := Lib.hid (show l.length ≤ maxLen by unfold maxLen; omega)
  have HC := Lib.hid hok.ok
  have HV := Lib.hid hv
  obtain ⟨va, vc, rfl, _⟩ := hv.shape
  obtain ⟨t1, t2, t3, t4⟩ := three_new w (.slice va l.length vc) #[.int .u32 (y0 : Nat), .int .u32 (y1 : Nat)] (.slice none 0 0) 26 53 26
  have HB := Lib.hid t4
  have HM := Lib.hid t1
  have HD := Lib.hid t2
  have HR := Lib.hid t3
  clear t1 t2 t3 t4
  obtain ⟨f1, hf1⟩ : ∃ q, q = secN N := ⟨_, rfl⟩
  obtain ⟨c1, hc1⟩ : ∃ q, q = B + f1 := ⟨_, rfl⟩
  obtain ⟨c2, hc2⟩ : ∃ q, q = c1 + 4 := ⟨_, rfl⟩
  have e2 : (B : Int) + (f1 : Nat) = (c1 : Nat) := by omega
  have e3 : (c1 : Int) + 4 = (c2 : Nat) := by omega
  have q1 : f1 ≤ 1000 := by omega
  have q2 : c1 ≤ 9000 := by omega
  have hwrc1 : IntKind.i64.wrap ((c1 : Nat) : Int) = (c1 : Nat) := IntWalk.i64_in _ (by omega)
  have hwrc2 : IntKind.i64.wrap ((c2 : Nat) : Int) = (c2 : Nat) := IntWalk.i64_in _ (by omega)
  have HF := Lib.hid (show ∀ W, Calls Tryz.prog 34 #[.int .i64 (N : Nat)] W fun e w' => e = .returned (.int .i64 (f1 : Nat)) ∧ w' = W from fun W => refSecond_any N f1 hf1.symm hN.2 W)
  obtain ⟨j, hj⟩ : ∃ j, k % N = j := ⟨_, rfl⟩
  have hjn : j < N := by rw [← hj]; exact Nat.mod_lt _ (by omega)
  rw [hj] at hp
  obtain ⟨q, hq⟩ : ∃ q, q = 8 * j := ⟨_, rfl⟩
  have htm : ((k : Nat) : Int).tmod ((N : Nat) : Int) = (j : Nat) := by rw [Int.tmod_eq_emod_of_nonneg (by omega)]; omega
  have hz : ¬ (N = 0) := by omega
  have hwj : IntKind.i64.wrap ((j : Nat) : Int) = (j : Nat) := IntWalk.i64_in _ (by omega)
  have hwk : IntKind.i64.wrap ((k : Nat) : Int) = (k : Nat) := IntWalk.i64_in _ (by omega)
  have hem : (k : Int) % (N : Nat) = (j : Nat) := by omega
  have e6 : (8 : Int) * (j : Nat) = (q : Nat) := by omega
  have e7 : (c2 : Int) + (q : Nat) = (p : Nat) := by omega
  have q3 : j ≤ 16 := by omega
  have q4 : q ≤ 1000 := by omega
  have hwrq : IntKind.i64.wrap ((q : Nat) : Int) = (q : Nat) := IntWalk.i64_in _ (by omega)
  have hwrp : IntKind.i64.wrap ((p : Nat) : Int) = (p : Nat) := IntWalk.i64_in _ (by omega)
  obtain ⟨kk, hkk⟩ : ∃ q, q = k + 1 := ⟨_, rfl⟩
  obtain ⟨ix, hix⟩ : ∃ q, q = c1 + 2 := ⟨_, rfl⟩
  have e8 : (c1 : Int) + 2 = (ix : Nat) := by omega
  have e9' : ((k : Nat) : Int) + 1 = (kk : Nat) := by omega
  have k1 : IntKind.u64.wrap ((k : Nat) : Int) = (k : Nat) := IntWalk.u64_in _ (by omega)
  have k2 : IntKind.u64.wrap ((kk : Nat) : Int) = (kk : Nat) := IntWalk.u64_in _ (by omega)
  have k3 : IntKind.u64.wrap (((k : Nat) : Int) + 1) = (kk : Nat) := by rw [e9']; exact k2
  have hwrix : IntKind.i64.wrap ((ix : Nat) : Int) = (ix : Nat) := IntWalk.i64_in _ (by omega)
  obtain ⟨p1, hp1⟩ : ∃ q, q = p + 4 := ⟨_, rfl⟩
  have e10 : (p : Int) + 4 = (p1 : Nat) := by omega
  have q5 : p ≤ 9000 := by omega
  have HPL := Lib.hid (show p + 8 ≤ l.length ∧ p1 = p + 4 by omega)
  have k4 : IntKind.u64.wrap ((y0 : Nat) : Int) = (y0 : Nat) := IntWalk.u64_in _ (by omega)
  have k5 : IntKind.u64.wrap ((y1 : Nat) : Int) = (y1 : Nat) := IntWalk.u64_in _ (by omega)
  obtain ⟨G1, hG1⟩ : ∃ G, putAt (putAt l p 4 y0) p1 4 y1 = G := ⟨_, rfl⟩
  obtain ⟨H, hH⟩ : ∃ H, H = putAt G1 ix 2 kk := ⟨_, rfl⟩
  have hHH : returnD l B N k y0 y1 = H := by
    rw [hH, ← hG1, returnD, hj, show B + secN N + 4 + 8 * j = p by omega, show B + secN N + 2 = ix by omega, hkk, hp1]
  rw [hHH]
  have HPT1 := Lib.hid (show ∀ (ra : Option Addr) (rc : Nat), G1.length = l.length → ∀ W, Below w.heap.size w W → Given W w.heap.size (.slice va l.length vc) l (.slice ra l.length rc) G1 → Calls Tryz.prog 35 #[.agg #[.slice ra l.length rc], .int .i64 (ix : Nat), .int .i64 2, .int .u64 (kk : Nat)] W fun e w' => ∃ sa sc, e = .returned (.agg #[.slice sa l.length sc]) ∧ Given w' w.heap.size (.slice va l.length vc) l (.slice sa l.length sc) H ∧ Below W.heap.size W w' from
    fun ra rc hG1l W hb hg => (refPut_step hv hb hg hG1l ix 2 kk (by omega) hL (by omega) (by decide) (by decide)).mono fun e w' ⟨sa, sc, g1, g2, _, g4⟩ => ⟨sa, sc, g1, by rw [hH]; exact g2, g4⟩)
  have HGG := Lib.hid hG1
  clear hf1 hc1 hc2 hk hj hq hjn hp hkk hix e9' hG1 hH hHH hp1
  clear hN hsz hfit hL hok hv
  go_enter Tryz.func13, Tryz.ntmps13
  go_wp2_with fail
  refine (refRingCheck_any _ _ _ HMX.out _ _ true HC.out _).mono ?_
  rintro e w1 ⟨rfl, hb⟩
  replace HM := Lib.hid (row_keep HM.out hb)
  replace HR := Lib.hid (row_keep HR.out hb)
  replace HD := Lib.hid (row_keep HD.out hb)
  replace HB := Lib.hid (HB.out.trans (hb.mono HB.out.size))
  clear hb
  go_wp2_with fail
  go_quiet ((go_at_call 34; refine Calls.quiet_of_same (HF.out _)))
  clear htm hz hwj hwk hem e3 e6 e7
  obtain ⟨w2, hw2⟩ : ∃ u, u = w1.drewN nq := ⟨_, rfl⟩
  have hbd := below_drewN (Below.refl w1.heap.size w1) nq
  rw [← hw2] at hbd ⊢
  clear hw2
  replace HM := Lib.hid (row_keep HM.out hbd)
  replace HR := Lib.hid (row_keep HR.out hbd)
  replace HB := Lib.hid (HB.out.trans (hbd.mono HB.out.size))
  replace HD := Lib.hid (row_keep HD.out hbd)
  clear hbd
  have HS := Lib.hid (show RSt w (.slice va l.length vc) l va vc l w2 from { out := HB.out, mem := HM.out, giv := .inl ⟨rfl, rfl⟩, len := rfl })
  obtain ⟨d0, _⟩ := at_cell HD.out 0 _ rfl
  obtain ⟨c0, _⟩ := one_cell HS.out.mem
  go_wp2_with fail
  refine (refPut_step HV.out HS.out.out HS.out.giv HS.out.len p 4 y0 (by omega) HL.out (by have := HPL.out; omega) (by decide) (by decide)).mono ?_
  rintro e w3 ⟨ra0, rc0, rfl, hg, hl, hb⟩
  clear c0 d0
  have hm := row_keep HS.out.mem hb
  obtain ⟨m0, n0⟩ := one_cell hm
  replace HD := Lib.hid (one_other (row_keep HD.out hb) ⟨w.heap.size, 0, none⟩ (.slice ra0 l.length rc0) (blocks_ne (row_keep HD.out hb) hm tneUM.symm))
  replace HR := Lib.hid (one_other (row_keep HR.out hb) ⟨w.heap.size, 0, none⟩ (.slice ra0 l.length rc0) (by simp))
  replace HS := Lib.hid (HS.out.next hb hg hl)
  clear hm hg hl hb
  obtain ⟨d1, _⟩ := at_cell HD.out 1 _ rfl
  obtain ⟨c1, _⟩ := one_cell HS.out.mem
  go_wp2_with fail
  refine (refPut_step HV.out HS.out.out HS.out.giv HS.out.len p1 4 y1 (by omega) HL.out (by have := HPL.out; omega) (by decide) (by decide)).mono ?_
  rintro e w4 ⟨ra1, rc1, rfl, hg, hl, hb⟩
  clear m0 n0
  clear c1 d1
  have hm := row_keep HS.out.mem hb
  obtain ⟨m1, n1⟩ := one_cell hm
  replace HD := Lib.hid (one_other (row_keep HD.out hb) ⟨w.heap.size, 0, none⟩ (.slice ra1 l.length rc1) (blocks_ne (row_keep HD.out hb) hm tneUM.symm))
  replace HR := Lib.hid (one_other (row_keep HR.out hb) ⟨w.heap.size, 0, none⟩ (.slice ra1 l.length rc1) (by simp))
  replace HS := Lib.hid (HS.out.next hb hg hl)
  clear hm hg hl hb
  clear HD
  replace HM := Lib.hid HS.out.mem
  have HG1 := Lib.hid (show Given (w4.setCell ⟨w.heap.size, 0, none⟩ (.slice ra1 l.length rc1)) w.heap.size (.slice va l.length vc) l (.slice ra1 l.length rc1) G1 from by have h := HS.out.giv; rw [HGG.out] at h; exact h)
  have HPT := Lib.hid (HPT1.out ra1 rc1 (by have h := HS.out.len; rw [HGG.out] at h; exact h))
  replace HB := Lib.hid HS.out.out
  clear HS HPT1
  go_wp2_with fail
  clear m1 n1
  obtain ⟨w5, hw5⟩ : ∃ u, u = w4.setCell ⟨w.heap.size, 0, none⟩ (.slice ra1 l.length rc1) := ⟨_, rfl⟩
  rw [← hw5] at HM HG1 HB HR ⊢
  clear hw5
  refine wp_region_rec (X := RngRefReturnBX) (by kernel_rfl) (by kernel_rfl) (fun x => #[x.b0, x.b1, x.b2, x.b3, x.b4, x.b5, x.b6, x.b7, x.b8, x.b9, x.b10, x.b11]) (fun x => { tmps := List.toArray ((Value.agg #[Value.slice va l.length vc]) :: (Value.int IntKind.i64 ↑B) :: (Value.int IntKind.i64 ↑N) :: (Value.int IntKind.u16 ↑k) :: (Value.agg #[Value.int IntKind.u32 ↑y0, Value.int IntKind.u32 ↑y1]) :: (Value.pointer (some ⟨w.heap.size, 0, none⟩)) :: undef :: undef :: undef :: (Value.pointer (some ⟨w.heap.size + 1, 0, none⟩)) :: (Value.pointer (some ⟨w.heap.size + 1 + 1, 0, none⟩)) :: x.s11 :: (Value.int IntKind.i64 ↑p) :: (Value.agg #[Value.slice va l.length vc]) :: (Value.int IntKind.i64 ↑B) :: (Value.int IntKind.i64 ↑N) :: (Value.bool true) :: (Value.bool false) :: undef :: (Value.int IntKind.i64 ↑B) :: (Value.int IntKind.i64 ↑N) :: (Value.int IntKind.i64 ↑f1) :: (Value.int IntKind.i64 ↑c1) :: (Value.int IntKind.i64 ↑c2) :: (Value.int IntKind.u16 ↑k) :: (Value.int IntKind.i64 ↑k) :: (Value.int IntKind.i64 ↑N) :: (Value.int IntKind.i64 ↑j) :: (Value.int IntKind.i64 ↑q) :: (Value.int IntKind.i64 ↑p) :: (Value.agg #[Value.slice va l.length vc]) :: (Value.int IntKind.i64 ↑p) :: (Value.pointer (some ⟨w.heap.size + 1, 0, none⟩)) :: (Value.int IntKind.u32 ↑y0) :: (Value.int IntKind.u64 ↑y0) :: (Value.agg #[Value.slice ra0 l.length rc0]) :: (Value.agg #[Value.slice ra0 l.length rc0]) :: (Value.int IntKind.i64 ↑p) :: (Value.int IntKind.i64 ↑p1) :: (Value.pointer (some ⟨w.heap.size + 1, 1, none⟩)) :: (Value.int IntKind.u32 ↑y1) :: (Value.int IntKind.u64 ↑y1) :: (Value.agg #[Value.slice ra1 l.length rc1]) :: x.s43 :: x.s44 :: x.s45 :: x.s46 :: x.s47 :: x.s48 :: x.s49 :: x.s50 :: x.s51 :: x.s52 :: []), defers := [] }) (fun x W => (x.b0 = true → x.s43 = .agg #[.slice ra1 l.length rc1]) ∧ (x.b1 = true → x.s44 = .int .i64 (B : Nat)) ∧ (x.b2 = true → x.s45 = .int .i64 (N : Nat)) ∧ (x.b3 = true → x.s46 = .int .i64 (f1 : Nat)) ∧ (x.b4 = true → x.s47 = .int .i64 (c1 : Nat)) ∧ (x.b5 = true → x.s48 = .int .i64 (ix : Nat)) ∧ (x.b6 = true → x.s49 = .int .u16 (k : Nat)) ∧ (x.b7 = true → x.s50 = .int .u64 (k : Nat)) ∧ (x.b8 = true → x.s51 = .int .u64 (kk : Nat)) ∧ (x.b11 = true → x.s11 = .int .i64 0) ∧ (W.heap[w.heap.size]? = some (.cells #[.slice ra1 l.length rc1] 26 (0, 0))) ∧ (x.b9 = false → Given W w.heap.size (.slice va l.length vc) l (.slice ra1 l.length rc1) G1) ∧ (x.b9 = true → ∃ sa sc, x.s52 = .agg #[.slice sa l.length sc] ∧ Given W w.heap.size (.slice va l.length vc) l (.slice sa l.length sc) H) ∧ (x.b10 = false → W.heap[w.heap.size + 1 + 1]? = some (.cells #[.slice none 0 0] 26)) ∧ (x.b10 = true → ∃ sa sc, W.heap[w.heap.size + 1 + 1]? = some (.cells #[.slice sa l.length sc] 26 (0, 0)) ∧ Given W w.heap.size (.slice va l.length vc) l (.slice sa l.length sc) H) ∧ (x.b10 = true → x.b9 = true) ∧ (Below w.heap.size w W)) ⟨false, false, false, false, false, false, false, false, false, false, false, false, undef, undef, undef, undef, undef, undef, undef, undef, undef, undef, Value.int IntKind.i64 0⟩ rfl rfl ⟨(fun h => by cases h), (fun h => by cases h), (fun h => by cases h), (fun h => by cases h), (fun h => by cases h), (fun h => by cases h), (fun h => by cases h), (fun h => by cases h), (fun h => by cases h), (fun h => by cases h), HM.out, (fun _ => HG1.out.below ((Below.refl _ _).drew)), (fun h => by cases h), (fun _ => HR.out), (fun h => by cases h), (fun h => by cases h), HB.out.drew⟩ (fun _ => rfl) ?hstep ?hdone
  case hstep =>
    rintro ⟨b0, b1, b2, b3, b4, b5, b6, b7, b8, b9, b10, b11, s43, s44, s45, s46, s47, s48, s49, s50, s51, s52, s11⟩ W hI i hi
    dsimp only at hI hi ⊢
    have HI := Lib.hid hI
    clear hI
    rw [Region.ready, List.mem_filter, List.mem_range] at hi
    obtain ⟨hlt, hp⟩ := hi
    have hi7 : i = 0 ∨ i = 1 ∨ i = 2 ∨ i = 3 ∨ i = 4 ∨ i = 5 ∨ i = 6 ∨ i = 7 ∨ i = 8 ∨ i = 9 ∨ i = 10 ∨ i = 11 := by simp at hlt; omega
    clear hlt
    rcases hi7 with rfl | rfl | rfl | rfl | rfl | rfl | rfl | rfl | rfl | rfl | rfl | rfl
    all_goals simp [Region.binds] at hp
    · have hn0 : b0 = false := by revert hp; cases b0 <;> simp
      clear hp
      subst hn0
      refine inv_op (o := ⟨some 43, _, _, _, _, _⟩) rfl (fun K' hK' => ?_)
      have gM := HI.out.2.2.2.2.2.2.2.2.2.2.1
      obtain ⟨hc1, hc2⟩ := one_cell gM
      go_simp
      obtain ⟨h0, h1, h2, h3, h4, h5, h6, h7, h8, h11, gM, gG, gP, gR, gB, gC, gO⟩ := HI.out
      exact hK'.out _ _ ⟨⟨true, b1, b2, b3, b4, b5, b6, b7, b8, b9, b10, b11, _, s44, s45, s46, s47, s48, s49, s50, s51, s52, s11⟩, rfl, rfl, (fun _ => rfl), h1, h2, h3, h4, h5, h6, h7, h8, h11, gM, gG, gP, gR, gB, gC, gO⟩
    · have hn1 : b1 = false := by revert hp; cases b1 <;> simp
      clear hp
      subst hn1
      refine inv_op (o := ⟨some 44, _, _, _, _, _⟩) rfl (fun K' hK' => ?_)
      go_simp
      obtain ⟨h0, h1, h2, h3, h4, h5, h6, h7, h8, h11, gM, gG, gP, gR, gB, gC, gO⟩ := HI.out
      exact hK'.out _ _ ⟨⟨b0, true, b2, b3, b4, b5, b6, b7, b8, b9, b10, b11, s43, _, s45, s46, s47, s48, s49, s50, s51, s52, s11⟩, rfl, rfl, h0, (fun _ => rfl), h2, h3, h4, h5, h6, h7, h8, h11, gM, gG, gP, gR, gB, gC, gO⟩
    · have hn2 : b2 = false := by revert hp; cases b2 <;> simp
      clear hp
      subst hn2
      refine inv_op (o := ⟨some 45, _, _, _, _, _⟩) rfl (fun K' hK' => ?_)
      go_simp
      obtain ⟨h0, h1, h2, h3, h4, h5, h6, h7, h8, h11, gM, gG, gP, gR, gB, gC, gO⟩ := HI.out
      exact hK'.out _ _ ⟨⟨b0, b1, true, b3, b4, b5, b6, b7, b8, b9, b10, b11, s43, s44, _, s46, s47, s48, s49, s50, s51, s52, s11⟩, rfl, rfl, h0, h1, (fun _ => rfl), h3, h4, h5, h6, h7, h8, h11, gM, gG, gP, gR, gB, gC, gO⟩
    · have hn3 : b3 = false := by revert hp; cases b3 <;> simp
      have e2 : b2 = true := by revert hp; cases b2 <;> simp
      clear hp
      obtain rfl := (HI.out.2.2.1) e2
      subst hn3
      refine inv_op (o := ⟨some 46, _, _, _, _, _⟩) rfl (fun K' hK' => ?_)
      go_simp
      refine (HF.out W).mono ?_
      rintro e w2 ⟨rfl, rfl⟩
      obtain ⟨h0, h1, h2, h3, h4, h5, h6, h7, h8, h11, gM, gG, gP, gR, gB, gC, gO⟩ := HI.out
      exact hK'.out _ _ ⟨⟨b0, b1, b2, true, b4, b5, b6, b7, b8, b9, b10, b11, s43, s44, _, _, s47, s48, s49, s50, s51, s52, s11⟩, rfl, rfl, h0, h1, h2, (fun _ => rfl), h4, h5, h6, h7, h8, h11, gM, gG, gP, gR, gB, gC, gO⟩
    · have hn4 : b4 = false := by revert hp; cases b4 <;> simp
      have e1 : b1 = true := by revert hp; cases b1 <;> simp
      have e3 : b3 = true := by revert hp; cases b3 <;> simp
      clear hp
      obtain rfl := (HI.out.2.1) e1
      obtain rfl := (HI.out.2.2.2.1) e3
      subst hn4
      refine inv_op (o := ⟨some 47, _, _, _, _, _⟩) rfl (fun K' hK' => ?_)
      go_simp
      obtain ⟨h0, h1, h2, h3, h4, h5, h6, h7, h8, h11, gM, gG, gP, gR, gB, gC, gO⟩ := HI.out
      exact hK'.out _ _ ⟨⟨b0, b1, b2, b3, true, b5, b6, b7, b8, b9, b10, b11, s43, _, s45, _, _, s48, s49, s50, s51, s52, s11⟩, rfl, rfl, h0, h1, h2, h3, (fun _ => rfl), h5, h6, h7, h8, h11, gM, gG, gP, gR, gB, gC, gO⟩
    · have hn5 : b5 = false := by revert hp; cases b5 <;> simp
      have e4 : b4 = true := by revert hp; cases b4 <;> simp
      clear hp
      obtain rfl := (HI.out.2.2.2.2.1) e4
      subst hn5
      refine inv_op (o := ⟨some 48, _, _, _, _, _⟩) rfl (fun K' hK' => ?_)
      go_simp
      obtain ⟨h0, h1, h2, h3, h4, h5, h6, h7, h8, h11, gM, gG, gP, gR, gB, gC, gO⟩ := HI.out
      exact hK'.out _ _ ⟨⟨b0, b1, b2, b3, b4, true, b6, b7, b8, b9, b10, b11, s43, s44, s45, s46, _, _, s49, s50, s51, s52, s11⟩, rfl, rfl, h0, h1, h2, h3, h4, (fun _ => rfl), h6, h7, h8, h11, gM, gG, gP, gR, gB, gC, gO⟩
    · have hn6 : b6 = false := by revert hp; cases b6 <;> simp
      clear hp
      subst hn6
      refine inv_op (o := ⟨some 49, _, _, _, _, _⟩) rfl (fun K' hK' => ?_)
      go_simp
      obtain ⟨h0, h1, h2, h3, h4, h5, h6, h7, h8, h11, gM, gG, gP, gR, gB, gC, gO⟩ := HI.out
      exact hK'.out _ _ ⟨⟨b0, b1, b2, b3, b4, b5, true, b7, b8, b9, b10, b11, s43, s44, s45, s46, s47, s48, _, s50, s51, s52, s11⟩, rfl, rfl, h0, h1, h2, h3, h4, h5, (fun _ => rfl), h7, h8, h11, gM, gG, gP, gR, gB, gC, gO⟩
    · have hn7 : b7 = false := by revert hp; cases b7 <;> simp
      have e6 : b6 = true := by revert hp; cases b6 <;> simp
      clear hp
      obtain rfl := (HI.out.2.2.2.2.2.2.1) e6
      subst hn7
      refine inv_op (o := ⟨some 50, _, _, _, _, _⟩) rfl (fun K' hK' => ?_)
      go_simp
      obtain ⟨h0, h1, h2, h3, h4, h5, h6, h7, h8, h11, gM, gG, gP, gR, gB, gC, gO⟩ := HI.out
      exact hK'.out _ _ ⟨⟨b0, b1, b2, b3, b4, b5, b6, true, b8, b9, b10, b11, s43, s44, s45, s46, s47, s48, _, _, s51, s52, s11⟩, rfl, rfl, h0, h1, h2, h3, h4, h5, h6, (fun _ => rfl), h8, h11, gM, gG, gP, gR, gB, gC, gO⟩
    · have hn8 : b8 = false := by revert hp; cases b8 <;> simp
      have e7 : b7 = true := by revert hp; cases b7 <;> simp
      clear hp
      obtain rfl := (HI.out.2.2.2.2.2.2.2.1) e7
      subst hn8
      refine inv_op (o := ⟨some 51, _, _, _, _, _⟩) rfl (fun K' hK' => ?_)
      go_simp
      obtain ⟨h0, h1, h2, h3, h4, h5, h6, h7, h8, h11, gM, gG, gP, gR, gB, gC, gO⟩ := HI.out
      exact hK'.out _ _ ⟨⟨b0, b1, b2, b3, b4, b5, b6, b7, true, b9, b10, b11, s43, s44, s45, s46, s47, s48, s49, _, _, s52, s11⟩, rfl, rfl, h0, h1, h2, h3, h4, h5, h6, h7, (fun _ => rfl), h11, gM, gG, gP, gR, gB, gC, gO⟩
    · have hn9 : b9 = false := by revert hp; cases b9 <;> simp
      have e0 : b0 = true := by revert hp; cases b0 <;> simp
      have e5 : b5 = true := by revert hp; cases b5 <;> simp
      have e8 : b8 = true := by revert hp; cases b8 <;> simp
      clear hp
      obtain rfl := (HI.out.1) e0
      obtain rfl := (HI.out.2.2.2.2.2.1) e5
      obtain rfl := (HI.out.2.2.2.2.2.2.2.2.1) e8
      subst hn9
      refine inv_op (o := ⟨some 52, _, _, _, _, _⟩) rfl (fun K' hK' => ?_)
      have gG := HI.out.2.2.2.2.2.2.2.2.2.2.2.1
      have gO := HI.out.2.2.2.2.2.2.2.2.2.2.2.2.2.2.2.2
      go_simp
      refine (HPT.out W gO (gG rfl)).mono ?_
      rintro e w9 ⟨sa, sc, rfl, hg, bn⟩
      obtain ⟨h0, h1, h2, h3, h4, h5, h6, h7, h8, h11, gM, gG, gP, gR, gB, gC, gO⟩ := HI.out
      exact hK'.out _ _ ⟨⟨b0, b1, b2, b3, b4, b5, b6, b7, b8, true, b10, b11, _, s44, s45, s46, s47, _, s49, s50, _, _, s11⟩, rfl, rfl, h0, h1, h2, h3, h4, h5, h6, h7, h8, h11, (row_keep gM bn), (fun e => by cases e), (fun _ => ⟨sa, sc, rfl, hg⟩), (fun e => row_keep (gR e) bn), (fun e => by have h9 := gC e; cases h9), (fun _ => rfl), (gO.trans (bn.mono gO.size))⟩
    · have hn10 : b10 = false := by revert hp; cases b10 <;> simp
      have e0 : b0 = true := by revert hp; cases b0 <;> simp
      have e1 : b1 = true := by revert hp; cases b1 <;> simp
      have e2 : b2 = true := by revert hp; cases b2 <;> simp
      have e3 : b3 = true := by revert hp; cases b3 <;> simp
      have e4 : b4 = true := by revert hp; cases b4 <;> simp
      have e5 : b5 = true := by revert hp; cases b5 <;> simp
      have e6 : b6 = true := by revert hp; cases b6 <;> simp
      have e7 : b7 = true := by revert hp; cases b7 <;> simp
      have e8 : b8 = true := by revert hp; cases b8 <;> simp
      have e9 : b9 = true := by revert hp; cases b9 <;> simp
      clear hp
      subst hn10
      refine inv_op (o := ⟨none, _, _, _, _, _⟩) rfl (fun K' hK' => ?_)
      have gP := HI.out.2.2.2.2.2.2.2.2.2.2.2.2.1
      have gR := HI.out.2.2.2.2.2.2.2.2.2.2.2.2.2.1
      obtain ⟨sa, sc, rfl, hg⟩ := gP e9
      have hrow := gR rfl
      obtain ⟨hc1, hc2⟩ := one_cell hrow
      go_simp
      obtain ⟨h0, h1, h2, h3, h4, h5, h6, h7, h8, h11, gM, gG, gP, gR, gB, gC, gO⟩ := HI.out
      exact hK'.out _ _ ⟨⟨b0, b1, b2, b3, b4, b5, b6, b7, b8, b9, true, b11, s43, s44, s45, s46, s47, s48, s49, s50, s51, _, s11⟩, rfl, rfl, h0, h1, h2, h3, h4, h5, h6, h7, h8, h11, (one_other gM _ _ (by simp; try omega)), (fun e => by rw [e9] at e; cases e), (fun _ => ⟨sa, sc, rfl, hg.far hrow tneMU _⟩), (fun e => by cases e), (fun _ => ⟨sa, sc, one_set hrow _, hg.far hrow tneMU _⟩), (fun _ => e9), (gO.setCell (by simp; try omega) _)⟩
    · have hn11 : b11 = false := by revert hp; cases b11 <;> simp
      clear hp
      subst hn11
      refine inv_op (o := ⟨some 11, _, _, _, _, _⟩) rfl (fun K' hK' => ?_)
      go_simp
      obtain ⟨h0, h1, h2, h3, h4, h5, h6, h7, h8, h11, gM, gG, gP, gR, gB, gC, gO⟩ := HI.out
      exact hK'.out _ _ ⟨⟨b0, b1, b2, b3, b4, b5, b6, b7, b8, b9, b10, true, s43, s44, s45, s46, s47, s48, s49, s50, s51, s52, _⟩, rfl, rfl, h0, h1, h2, h3, h4, h5, h6, h7, h8, (fun _ => rfl), gM, gG, gP, gR, gB, gC, gO⟩
  case hdone =>
    rintro ⟨b0, b1, b2, b3, b4, b5, b6, b7, b8, b9, b10, b11, s43, s44, s45, s46, s47, s48, s49, s50, s51, s52, s11⟩ W hI hall
    dsimp only at hI hall ⊢
    have HI := Lib.hid hI
    clear hI
    obtain rfl : b0 = true := hall 0 (by decide)
    obtain rfl : b1 = true := hall 1 (by decide)
    obtain rfl : b2 = true := hall 2 (by decide)
    obtain rfl : b3 = true := hall 3 (by decide)
    obtain rfl : b4 = true := hall 4 (by decide)
    obtain rfl : b5 = true := hall 5 (by decide)
    obtain rfl : b6 = true := hall 6 (by decide)
    obtain rfl : b7 = true := hall 7 (by decide)
    obtain rfl : b8 = true := hall 8 (by decide)
    obtain rfl : b9 = true := hall 9 (by decide)
    obtain rfl : b10 = true := hall 10 (by decide)
    obtain rfl : b11 = true := hall 11 (by decide)
    obtain rfl := (HI.out.2.2.2.2.2.2.2.2.2.1) rfl
    have gB := HI.out.2.2.2.2.2.2.2.2.2.2.2.2.2.2.1
    have gO := HI.out.2.2.2.2.2.2.2.2.2.2.2.2.2.2.2.2
    clear HI hall
    obtain ⟨sa, sc, hrow, hg⟩ := gB rfl
    obtain ⟨r0, f0⟩ := one_cell hrow
    have HG9 := Lib.hid hg
    have HO9 := Lib.hid gO
    clear hrow hg gB gO f0
    go_wp2
    refine bodyPost_ret (v := .tuple #[.agg #[.slice sa l.length sc], .int .i64 0]) (by simp [results, Tryz.results13, go_sem, r0]) rfl ⟨sa, sc, rfl, HG9.out, HO9.out⟩
end Go.Proofs.YtnmekbbnglkmcaaGreat
/- All the document's answers; what is answered by name; what the examples of the law's package come to: true. -/
namespace Go.Proofs.YtnmekbbnglkmcaaGreat
open Go.RowKit Go.Lib

theorem okR_ring {L : Nat} {b z : Int} (h : ringF L b z = 70) : okR L b z = false := by
  rcases ring_cases L b z with ⟨h1, _⟩ | ⟨_, _, _, _, _, h1⟩
  · exact h1
  · omega
theorem refOffer_any (v : Value) (l : List UInt8) (b z : Int) (k : Nat) (hk : k < 65536) (h : Int) (F : Int) (G : List UInt8) (hF : ringF l.length b z = F) (hG : offerX l b z k h = G) (hl : l.length ≤ 140737488355328) (w : World) (hv : IsArg w v l) :
    Calls Tryz.prog 17 #[.agg #[v], .int .i64 b, .int .i64 z, .int .u16 (k : Nat), .int .i64 h] w (Wrote w v l G F) := by
  by_cases h0 : F = 0
  · subst h0
    obtain ⟨B, N, rfl, rfl, hok⟩ := ring_in hF
    rw [offerX_ok hok] at hG
    subst hG
    exact refOffer_in v l w hv B N hok k hk h _ rfl
  · have h7 := ringF_two (by rw [hF]; exact h0)
    obtain rfl : F = 70 := by omega
    rw [offerX, if_neg (by rw [h7]; decide)] at hG
    subst hG
    exact refOffer_out v l b z k h (okR_ring h7) hl w hv
theorem refReturn_any (v : Value) (l : List UInt8) (b z : Int) (k : Nat) (hk : k < 65536) (y0 y1 : Nat) (hy0 : y0 < 4294967296) (hy1 : y1 < 4294967296) (F : Int) (G : List UInt8) (hF : ringF l.length b z = F) (hG : returnX l b z k y0 y1 = G) (hl : l.length ≤ 140737488355328) (w : World) (hv : IsArg w v l) :
    Calls Tryz.prog 13 #[.agg #[v], .int .i64 b, .int .i64 z, .int .u16 (k : Nat), .agg #[.int .u32 (y0 : Nat), .int .u32 (y1 : Nat)]] w (Wrote w v l G F) := by
  by_cases h0 : F = 0
  · subst h0
    obtain ⟨B, N, rfl, rfl, hok⟩ := ring_in hF
    rw [returnX_ok hok] at hG
    subst hG
    exact refReturn_in v l w hv B N hok k hk y0 y1 hy0 hy1 _ rfl
  · have h7 := ringF_two (by rw [hF]; exact h0)
    obtain rfl : F = 70 := by omega
    rw [returnX, if_neg (by rw [h7]; decide)] at hG
    subst hG
    exact refReturn_out v l b z k y0 y1 (okR_ring h7) hl w hv
theorem Wrote.arg {w : World} {v : Value} {l G : List UInt8} {F : Int} {e : Ending} {w' : World} (h : Wrote w v l G F e w') (hv : IsArg w v l) : ∃ ra rc, e = .returned (.tuple #[.agg #[.slice ra l.length rc], .int .i64 F]) ∧ IsArg w' (.slice ra l.length rc) G ∧ Below w.heap.size w w' := by
  obtain ⟨ra, rc, h1, h2, h3⟩ := h
  exact ⟨ra, rc, h1, h2.arg hv h3, h3⟩
end Go.Proofs.YtnmekbbnglkmcaaGreat
/- The law QueueTurns returns true for every input. -/
namespace Go.Proofs.YtnmekbbnglkmcaaGreat
open Go.RowKit Go.Lib

theorem ringT (l : List UInt8) (h : l.length = 400) : ringF l.length 0 4 = 0 := by rw [h]; decide
theorem retref_this (v : Value) (l : List UInt8) (k : Nat) (hk : k < 65536) (w : World) (hv : OwnB 0 w v l) (hl : l.length = 400) :
    Calls Tryz.prog 13 #[.agg #[v], .int .i64 0, .int .i64 4, .int .u16 (k : Nat), .agg #[.int .u32 0, .int .u32 0]] w fun e w' => ∃ ra rc G, e = .returned (.tuple #[.agg #[.slice ra 400 rc], .int .i64 0]) ∧ OwnB 0 w' (.slice ra 400 rc) G ∧ G.length = 400 ∧ Below w.heap.size w w' := by
  refine (refReturn_any v l 0 4 k hk 0 0 (by decide) (by decide) 0 _ (ringT l hl) rfl (by rw [hl]; decide) w hv.arg).mono ?_
  rintro e w' ⟨ra, rc, rfl, hgv, hb⟩
  rw [hl] at hgv ⊢
  exact ⟨ra, rc, _, rfl, hgv.ownB hv hb, by rw [returnX_length, hl], hb⟩
theorem offref_this (v : Value) (l : List UInt8) (k : Nat) (hk : k < 65536) (w : World) (hv : OwnB 0 w v l) (hl : l.length = 400) :
    Calls Tryz.prog 17 #[.agg #[v], .int .i64 0, .int .i64 4, .int .u16 (k : Nat), .int .i64 0] w fun e w' => ∃ ra rc G, e = .returned (.tuple #[.agg #[.slice ra 400 rc], .int .i64 0]) ∧ OwnB 0 w' (.slice ra 400 rc) G ∧ G.length = 400 ∧ Below w.heap.size w w' := by
  refine (refOffer_any v l 0 4 k hk 0 0 _ (ringT l hl) rfl (by rw [hl]; decide) w hv.arg).mono ?_
  rintro e w' ⟨ra, rc, rfl, hgv, hb⟩
  rw [hl] at hgv ⊢
  exact ⟨ra, rc, _, rfl, hgv.ownB hv hb, by rw [offerX_length, hl], hb⟩
theorem run_zeros400 (W : World) : (Instr.makeSlice 24 (.int .i64 400) (.int .i64 400)).run Tryz.prog W = .ok (.slice (some ⟨W.heap.size, 0, none⟩) 400 400) (W.alloc (.cells (madeCells #[.int .u8 0] 400) 5)) := run_zerosK 400 (by decide) W
theorem tq0_len : (newQ 0 4).free.length = 4 := rfl
structure QueTuA where
  b0 : Bool
  b1 : Bool
  b2 : Bool
  b3 : Bool
  b4 : Bool
  b5 : Bool
  s173 : Value
  s174 : Value
  s175 : Value

set_option maxHeartbeats 4000000 in
set_option maxRecDepth 100000 in
theorem queueTurns_main (w : World) (k : Nat) (hk : k < 65536) (v : Value) (l : List Int) (hv : IsInts w v l) (z : Int) (hc : l.length ≤ 40 ∧ 0 ≤ z) :
    Calls Tryz.prog 5 #[.int .u16 (k : Nat), v, .int .i64 z] w fun e w' => e = .returned (.bool true) ∧ Below w.heap.size w w' := by
  obtain ⟨va, vn, vc, rfl, hvn⟩ : ∃ a n c, v = .slice a n c ∧ n = l.length := by obtain ⟨a, c, h, _⟩ := hv.1.shape; exact ⟨a, _, c, h, rfl⟩
  have HV := Lib.hid hv
  have HVN := Lib.hid hvn
  obtain ⟨l0, hl0⟩ : ∃ l : List UInt8, l = List.replicate 400 0 := ⟨_, rfl⟩
  have hn0 : l0.length = 400 := by rw [hl0]; simp
  have HN0 := Lib.hid hn0
  have HK := Lib.hid hk
  have hzz := zerosK_own w 400 (by decide)
  rw [← hl0] at hzz
  have AM := Lib.hid hzz
  have BW := Lib.hid ((Below.refl w.heap.size w).alloc (Nat.le_refl _) (.cells (madeCells #[.int .u8 0] 400) 5))
  have hmk := run_zeros400
  obtain ⟨km, hkm⟩ : ∃ m, m = (k + 65535) % 65536 := ⟨_, rfl⟩
  have hkw : IntKind.u16.wrap (((k : Nat) : Int) - 1) = (km : Nat) := by simp [IntKind.wrap, IntKind.bits, IntKind.signed]; omega
  have HKM := Lib.hid (show km < 65536 by omega)
  have h40 : vn ≤ 40 := by rw [hvn]; exact hc.1
  have hz0 : 0 ≤ z := hc.2
  clear hv hvn hl0 hn0 hzz hk hc hkm
  go_enter Tryz.func5, Tryz.ntmps5
  go_wp2_with fail
  refine (new_this _ l0 0 4 _ AM.out (okT _ HN0.out) 0 4 400 rfl rfl HN0.out).mono ?_
  rintro e w1 ⟨aa, ca, Fa, Ca, rfl, hm, hq, hb⟩
  clear hmk
  obtain ⟨fa, pfa, rfl⟩ := hq.freeLen tq0_len
  obtain ⟨xa, pxa, rfl⟩ := hq.chainLen (show (newQ 0 4).chains.length = 0 from rfl)
  replace AM := Lib.hid (AM.out.below hb)
  replace BW := Lib.hid (BW.out.trans (hb.mono BW.out.size))
  have Aa := Lib.hid hm
  clear hm
  have Qa := Lib.hid hq
  clear hq
  clear hb
  have HS1 := Lib.hid (show w.heap.size ≤ w1.heap.size from BW.out.size)
  obtain ⟨l1, hl1⟩ : ∃ x, zeroM l0 0 4 = x := ⟨_, rfl⟩
  rw [hl1] at Aa
  have HN1 := Lib.hid (show l1.length = 400 by rw [← hl1, zeroM_length (okT l0 HN0.out), HN0.out])
  clear hl1
  clear AM
  have hbx : Below (w1).heap.size (w1) ((w1).alloc (.cells #[.slice aa 400 ca] 26)) := (Below.refl _ _).alloc (Nat.le_refl _) _
  replace BW := Lib.hid (BW.out.trans (hbx.mono BW.out.size))
  replace Aa := Lib.hid (Aa.out.below hbx)
  replace Qa := Lib.hid (Qa.out.below hbx)
  have Rm := Lib.hid (heap_alloc_new (w1) (.cells #[.slice aa 400 ca] 26))
  clear hbx
  have hbx : Below ((w1).alloc (.cells #[.slice aa 400 ca] 26)).heap.size ((w1).alloc (.cells #[.slice aa 400 ca] 26)) (((w1).alloc (.cells #[.slice aa 400 ca] 26)).alloc (.cells #[.int .i64 0, .int .i64 4, .slice fa 4 pfa, .int .u16 0, .int .u16 0, .slice xa 0 pxa] 30)) := (Below.refl _ _).alloc (Nat.le_refl _) _
  replace BW := Lib.hid (BW.out.trans (hbx.mono BW.out.size))
  replace Aa := Lib.hid (Aa.out.below hbx)
  replace Qa := Lib.hid (Qa.out.below hbx)
  replace Rm := Lib.hid (row_keep Rm.out hbx)
  have Rq := Lib.hid (heap_alloc_new ((w1).alloc (.cells #[.slice aa 400 ca] 26)) (.cells #[.int .i64 0, .int .i64 4, .slice fa 4 pfa, .int .u16 0, .int .u16 0, .slice xa 0 pxa] 30))
  clear hbx
  have hsz : ((w1).alloc (.cells #[.slice aa 400 ca] 26)).heap.size = w1.heap.size + 1 := by simp
  rw [hsz] at Rq
  clear hsz
  go_wp2_with fail
  refine (serve_this 0 4 _).mono ?_
  rintro e w2 ⟨rfl, hb⟩
  replace BW := Lib.hid (BW.out.trans (hb.mono BW.out.size))
  replace Aa := Lib.hid (Aa.out.below hb)
  replace Qa := Lib.hid (Qa.out.below hb)
  replace Rm := Lib.hid (row_keep Rm.out hb)
  replace Rq := Lib.hid (row_keep Rq.out hb)
  clear hb
  have HS2 := Lib.hid (show w.heap.size ≤ w2.heap.size from BW.out.size)
  obtain ⟨lRm0c1, zRm0c1⟩ := at_cell Rm.out 0 _ rfl
  obtain ⟨lRq0c2, zRq0c2⟩ := at_cell Rq.out 0 _ rfl
  obtain ⟨lRq1c3, zRq1c3⟩ := at_cell Rq.out 1 _ rfl
  obtain ⟨lRq2c4, zRq2c4⟩ := at_cell Rq.out 2 _ rfl
  obtain ⟨lRq3c5, zRq3c5⟩ := at_cell Rq.out 3 _ rfl
  obtain ⟨lRq4c6, zRq4c6⟩ := at_cell Rq.out 4 _ rfl
  obtain ⟨lRq5c7, zRq5c7⟩ := at_cell Rq.out 5 _ rfl
  have hlq := (Array.getElem?_eq_some_iff.1 Rq.out).1
  have hlm := (Array.getElem?_eq_some_iff.1 Rm.out).1
  have BWn := Lib.hid ((BW.out.setCell (p := ⟨w1.heap.size + 1, 3, none⟩) ((by have := BW.out.size; show w.heap.size ≤ w1.heap.size + 1; have := HS1.out; omega)) (.int .u16 (k : Nat))).setCell (p := ⟨w1.heap.size + 1, 4, none⟩) ((by have := BW.out.size; show w.heap.size ≤ w1.heap.size + 1; have := HS1.out; omega)) (.int .u16 (k : Nat)))
  have Aan := Lib.hid ((Aa.out.stay Rq.out (by decide) 3 (.int .u16 (k : Nat))).stay (row_put Rq.out 3 (.int .u16 (k : Nat))) (by decide) 4 (.int .u16 (k : Nat)))
  have Qan := Lib.hid ((Qa.out.stay Rq.out (by decide) (by decide) 3 (.int .u16 (k : Nat))).stay (row_put Rq.out 3 (.int .u16 (k : Nat))) (by decide) (by decide) 4 (.int .u16 (k : Nat)))
  have Rmn := Lib.hid (one_other (one_other Rm.out ⟨w1.heap.size + 1, 3, none⟩ (.int .u16 (k : Nat)) ((show w1.heap.size + 1 ≠ w1.heap.size by omega))) ⟨w1.heap.size + 1, 4, none⟩ (.int .u16 (k : Nat)) ((show w1.heap.size + 1 ≠ w1.heap.size by omega)))
  replace Rq := Lib.hid (row_put (row_put Rq.out 3 (.int .u16 (k : Nat))) 4 (.int .u16 (k : Nat)))
  replace BW := BWn
  replace Aa := Aan
  replace Qa := Qan
  replace Rm := Rmn
  try clear BWn Aan Qan Rmn
  have hbx : Below (((w2.setCell ⟨w1.heap.size + 1, 3, none⟩ (.int .u16 (k : Nat))).setCell ⟨w1.heap.size + 1, 4, none⟩ (.int .u16 (k : Nat)))).heap.size (((w2.setCell ⟨w1.heap.size + 1, 3, none⟩ (.int .u16 (k : Nat))).setCell ⟨w1.heap.size + 1, 4, none⟩ (.int .u16 (k : Nat)))) ((((w2.setCell ⟨w1.heap.size + 1, 3, none⟩ (.int .u16 (k : Nat))).setCell ⟨w1.heap.size + 1, 4, none⟩ (.int .u16 (k : Nat)))).alloc (.cells #[.int .i64 0, .int .i64 4, .int .u16 (k : Nat), .int .u16 (k : Nat)] 35)) := (Below.refl _ _).alloc (Nat.le_refl _) _
  replace BW := Lib.hid (BW.out.trans (hbx.mono BW.out.size))
  replace Aa := Lib.hid (Aa.out.below hbx)
  replace Qa := Lib.hid (Qa.out.below hbx)
  replace Rm := Lib.hid (row_keep Rm.out hbx)
  replace Rq := Lib.hid (row_keep Rq.out hbx)
  have Rd := Lib.hid (heap_alloc_new (((w2.setCell ⟨w1.heap.size + 1, 3, none⟩ (.int .u16 (k : Nat))).setCell ⟨w1.heap.size + 1, 4, none⟩ (.int .u16 (k : Nat)))) (.cells #[.int .i64 0, .int .i64 4, .int .u16 (k : Nat), .int .u16 (k : Nat)] 35))
  clear hbx
  have hsz : (((w2.setCell ⟨w1.heap.size + 1, 3, none⟩ (.int .u16 (k : Nat))).setCell ⟨w1.heap.size + 1, 4, none⟩ (.int .u16 (k : Nat)))).heap.size = w2.heap.size := by simp
  rw [hsz] at Rd
  clear hsz
  go_wp2_with fail
  refine (retref_this _ l1 km HKM.out _ Aa.out HN1.out).mono ?_
  rintro e w3 ⟨au, cu, G0, rfl, hm, hgl, hb⟩
  have HGL := Lib.hid hgl
  clear hgl
  clear lRm0c1 zRm0c1 lRq0c2 zRq0c2 lRq1c3 zRq1c3 lRq2c4 zRq2c4 lRq3c5 zRq3c5 lRq4c6 zRq4c6 lRq5c7 zRq5c7 hlq hlm
  replace BW := Lib.hid (BW.out.trans (hb.mono BW.out.size))
  replace Aa := Lib.hid (Aa.out.below hb)
  replace Qa := Lib.hid (Qa.out.below hb)
  replace Rm := Lib.hid (row_keep Rm.out hb)
  replace Rq := Lib.hid (row_keep Rq.out hb)
  replace Rd := Lib.hid (row_keep Rd.out hb)
  have Ab := Lib.hid hm
  clear hm
  clear hb
  obtain ⟨lRm0c8, zRm0c8⟩ := at_cell Rm.out 0 _ rfl
  have hlm := (Array.getElem?_eq_some_iff.1 Rm.out).1
  have BWn := Lib.hid (BW.out.setCell (p := ⟨w1.heap.size, 0, none⟩) (HS1.out) (.slice au 400 cu))
  have Aan := Lib.hid (Aa.out.stay Rm.out (by decide) 0 (.slice au 400 cu))
  have Qan := Lib.hid (Qa.out.stay Rm.out (by decide) (by decide) 0 (.slice au 400 cu))
  have Rqn := Lib.hid (one_other Rq.out ⟨w1.heap.size, 0, none⟩ (.slice au 400 cu) (blocks_ne Rq.out Rm.out (by decide)))
  have Rdn := Lib.hid (one_other Rd.out ⟨w1.heap.size, 0, none⟩ (.slice au 400 cu) (blocks_ne Rd.out Rm.out (by decide)))
  have Abn := Lib.hid (Ab.out.stay Rm.out (by decide) 0 (.slice au 400 cu))
  replace Rm := Lib.hid (row_put Rm.out 0 (.slice au 400 cu))
  replace BW := BWn
  replace Aa := Aan
  replace Qa := Qan
  replace Rq := Rqn
  replace Rd := Rdn
  replace Ab := Abn
  try clear BWn Aan Qan Rqn Rdn Abn
  go_wp2_with fail
  refine (offref_this _ G0 km HKM.out _ Ab.out HGL.out).mono ?_
  rintro e w4 ⟨ac, cc, Gp, rfl, hm, hgl, hb⟩
  have HGM := Lib.hid hgl
  clear hgl
  clear lRm0c8 zRm0c8 hlm
  replace BW := Lib.hid (BW.out.trans (hb.mono BW.out.size))
  replace Aa := Lib.hid (Aa.out.below hb)
  replace Qa := Lib.hid (Qa.out.below hb)
  replace Rm := Lib.hid (row_keep Rm.out hb)
  replace Rq := Lib.hid (row_keep Rq.out hb)
  replace Rd := Lib.hid (row_keep Rd.out hb)
  replace Ab := Lib.hid (Ab.out.below hb)
  have Ac := Lib.hid hm
  clear hm
  clear hb
  obtain ⟨lRm0c9, zRm0c9⟩ := at_cell Rm.out 0 _ rfl
  have hlm := (Array.getElem?_eq_some_iff.1 Rm.out).1
  have BWn := Lib.hid (BW.out.setCell (p := ⟨w1.heap.size, 0, none⟩) (HS1.out) (.slice ac 400 cc))
  have Aan := Lib.hid (Aa.out.stay Rm.out (by decide) 0 (.slice ac 400 cc))
  have Qan := Lib.hid (Qa.out.stay Rm.out (by decide) (by decide) 0 (.slice ac 400 cc))
  have Rqn := Lib.hid (one_other Rq.out ⟨w1.heap.size, 0, none⟩ (.slice ac 400 cc) (blocks_ne Rq.out Rm.out (by decide)))
  have Rdn := Lib.hid (one_other Rd.out ⟨w1.heap.size, 0, none⟩ (.slice ac 400 cc) (blocks_ne Rd.out Rm.out (by decide)))
  have Abn := Lib.hid (Ab.out.stay Rm.out (by decide) 0 (.slice ac 400 cc))
  have Acn := Lib.hid (Ac.out.stay Rm.out (by decide) 0 (.slice ac 400 cc))
  replace Rm := Lib.hid (row_put Rm.out 0 (.slice ac 400 cc))
  replace BW := BWn
  replace Aa := Aan
  replace Qa := Qan
  replace Rq := Rqn
  replace Rd := Rdn
  replace Ab := Abn
  replace Ac := Acn
  try clear BWn Aan Qan Rqn Rdn Abn Acn
  go_wp2
  clear lRm0c9 zRm0c9 hlm
  have HQ0 := Lib.hid (show IsQ 0 ((w4.setCell ⟨w1.heap.size, 0, none⟩ (.slice ac 400 cc))) (.slice fa 4 pfa) (.slice xa 0 pxa) (tq k) [] from Qa.out.as rfl rfl)
  go_loopw [12] (fun i wr => ∃ (j A : Nat) (am : Option Addr) (cm : Nat) (fm : Option Addr) (pf : Nat) (xm : Option Addr) (px : Nat) (D : List Value) (G : List UInt8), j ≤ vn ∧ i = .int .i64 (j : Nat) ∧ A = (k + j) % 65536 ∧ G.length = 400 ∧ wr.heap[w1.heap.size]? = some (.cells #[.slice am 400 cm] 26 (0, 0)) ∧ wr.heap[w1.heap.size + 1]? = some (.cells #[.int .i64 0, .int .i64 4, .slice fm 4 pf, .int .u16 (A : Nat), .int .u16 (A : Nat), .slice xm 0 px] 30 (0, 0)) ∧ wr.heap[w2.heap.size]? = some (.cells #[.int .i64 0, .int .i64 4, .int .u16 (A : Nat), .int .u16 (A : Nat)] 35 (0, 0)) ∧ OwnB 0 wr (.slice am 400 cm) G ∧ IsQ 0 wr (.slice fm 4 pf) (.slice xm 0 px) (tq A) D ∧ Below w.heap.size w wr) (fun i _ => vn - (intOf i).toNat)
  case atStart => exact ⟨0, k, _, _, _, _, _, _, _, Gp, Nat.zero_le _, rfl, by have := HK.out; omega, HGM.out, Rm.out, Rq.out, Rd.out, Ac.out, HQ0.out, BW.out⟩
  case round =>
    obtain ⟨j, A, am, cm, fm, pf, xm, px, D, G, hj, rfl, hA, hG, hm, hq, hd, ho, hi, hb⟩ := hrel
    have Rm := Lib.hid hm
    have Rq := Lib.hid hq
    have Rd := Lib.hid hd
    have Am := Lib.hid ho
    have Qm := Lib.hid hi
    have BW := Lib.hid hb
    have HG := Lib.hid hG
    have HJ := Lib.hid hA
    have HA := Lib.hid (show A < 65536 by omega)
    clear hm hq hd ho hi hb hG hA
    by_cases hlt : j < vn
    · obtain ⟨bx, off, rfl, hx⟩ := (HV.out.below BW.out).at j (by rw [← HVN.out]; exact hlt)
      obtain ⟨xj, hxj⟩ : ∃ x, l.getD j 0 = x := ⟨_, rfl⟩
      rw [hxj] at hx
      obtain ⟨y, hy, hya⟩ := and_small xj 63 (by decide)
      have hya : bits BinOp.and IntKind.i64 xj 63 = (y : Int) := hya
      obtain ⟨n, hn⟩ : ∃ n, n = 1 + y := ⟨_, rfl⟩
      have HNY := Lib.hid (show ((n : Nat) : Int) = 1 + ((y : Nat) : Int) by omega)
      have HNN := Lib.hid (show 1 ≤ n ∧ n ≤ 64 by omega)
      obtain ⟨A1, hA1⟩ : ∃ x, (A + 1) % 65536 = x := ⟨_, rfl⟩
      obtain ⟨G1, hG1⟩ : ∃ x, addM G 0 4 (tq A) (tbs n) = x := ⟨_, rfl⟩
      obtain ⟨G2, hG2⟩ : ∃ x, returnD G1 0 4 A 0 n = x := ⟨_, rfl⟩
      have HT := Lib.hid (turn_step G G1 G2 A n HA.out HG.out HNN.out.1 HNN.out.2 hG1 hG2)
      have HG1 := Lib.hid hG1
      have HG2 := Lib.hid hG2
      have HA1 := Lib.hid hA1
      clear hxj hn hA1 hG1 hG2
      obtain ⟨lRm0c10, zRm0c10⟩ := at_cell Rm.out 0 _ rfl
      clear zRm0c10
      obtain ⟨lRq0c11, zRq0c11⟩ := at_cell Rq.out 0 _ rfl
      clear zRq0c11
      obtain ⟨lRq1c12, zRq1c12⟩ := at_cell Rq.out 1 _ rfl
      clear zRq1c12
      obtain ⟨lRq2c13, zRq2c13⟩ := at_cell Rq.out 2 _ rfl
      clear zRq2c13
      obtain ⟨lRq3c14, zRq3c14⟩ := at_cell Rq.out 3 _ rfl
      clear zRq3c14
      obtain ⟨lRq4c15, zRq4c15⟩ := at_cell Rq.out 4 _ rfl
      clear zRq4c15
      obtain ⟨lRq5c16, zRq5c16⟩ := at_cell Rq.out 5 _ rfl
      clear zRq5c16
      have hbx : Below (wr).heap.size (wr) ((wr).alloc (.cells #[.int .i64 200, .int .i64 (1 + (y : Nat)), .bool true] 39)) := (Below.refl _ _).alloc (Nat.le_refl _) _
      replace Rm := Lib.hid (row_keep Rm.out hbx)
      replace Rq := Lib.hid (row_keep Rq.out hbx)
      replace Rd := Lib.hid (row_keep Rd.out hbx)
      replace Am := Lib.hid (Am.out.below hbx)
      replace Qm := Lib.hid (Qm.out.below hbx)
      replace BW := Lib.hid (BW.out.trans (hbx.mono BW.out.size))
      have hpr := buf_row (wr) 200 (1 + (y : Nat)) true
      have hsz : (wr).heap.size = wr.heap.size := by simp
      rw [hsz] at hpr
      have BF := Lib.hid hpr
      clear hbx hsz hpr
      replace BF := Lib.hid (show OwnBf 0 ((wr).alloc (.cells #[.int .i64 200, .int .i64 (1 + (y : Nat)), .bool true] 39)) (.slice (some ⟨wr.heap.size, 0, none⟩) 1 1) (tbs n) by have h := BF.out; unfold tbs; rw [HNY.out]; exact h)
      go_wp2_with fail
      refine (add_this (tq A) 4 0 _ _ _ _ D G (tbs n) _ Am.out Qm.out BF.out (tq_good HA.out) rfl (okT _ HG.out) (Nat.le_refl 1) (show 1 ≤ (upN 4).length by decide) (show 1 ≤ 4 by decide) (tbs_in _ HG.out HNN.out.1 HNN.out.2) 0 4 (A : Nat) (A : Nat) (A1 : Nat) 0 400 rfl rfl rfl rfl (by rw [← HA1.out]; rfl) rfl HG.out).mono ?_
      rintro e w5 ⟨ab, cb, Fb, Cb, Db, rfl, hm, hq, hb⟩
      obtain ⟨fb, pfb, rfl⟩ := hq.freeLen (tq1_len A n)
      obtain ⟨xb, pxb, rfl⟩ := hq.chainLen (tq1_clen A n)
      clear lRm0c10 lRq0c11 lRq1c12 lRq2c13 lRq3c14 lRq4c15 lRq5c16 hx hya
      replace Rm := Lib.hid (row_keep Rm.out hb)
      replace Rq := Lib.hid (row_keep Rq.out hb)
      replace Rd := Lib.hid (row_keep Rd.out hb)
      replace Am := Lib.hid (Am.out.below hb)
      replace Qm := Lib.hid (Qm.out.below hb)
      replace BW := Lib.hid (BW.out.trans (hb.mono BW.out.size))
      replace BF := Lib.hid (BF.out.below hb)
      have Ab := Lib.hid hm
      clear hm
      have Qb := Lib.hid hq
      clear hq
      clear hb
      rw [HG1.out] at Ab
      clear BF
      have hbx : Below (w5).heap.size (w5) ((w5).alloc (.cells #[.slice ab 400 cb] 26)) := (Below.refl _ _).alloc (Nat.le_refl _) _
      replace Rm := Lib.hid (row_keep Rm.out hbx)
      replace Rq := Lib.hid (row_keep Rq.out hbx)
      replace Rd := Lib.hid (row_keep Rd.out hbx)
      replace Am := Lib.hid (Am.out.below hbx)
      replace Qm := Lib.hid (Qm.out.below hbx)
      replace BW := Lib.hid (BW.out.trans (hbx.mono BW.out.size))
      replace Ab := Lib.hid (Ab.out.below hbx)
      replace Qb := Lib.hid (Qb.out.below hbx)
      have Ra := Lib.hid (heap_alloc_new (w5) (.cells #[.slice ab 400 cb] 26))
      clear hbx
      have hbx : Below ((w5).alloc (.cells #[.slice ab 400 cb] 26)).heap.size ((w5).alloc (.cells #[.slice ab 400 cb] 26)) (((w5).alloc (.cells #[.slice ab 400 cb] 26)).alloc (.cells #[.int .i64 0, .int .i64 4, .slice fb 3 pfb, .int .u16 (A1 : Nat), .int .u16 (A : Nat), .slice xb 1 pxb] 30)) := (Below.refl _ _).alloc (Nat.le_refl _) _
      replace Rm := Lib.hid (row_keep Rm.out hbx)
      replace Rq := Lib.hid (row_keep Rq.out hbx)
      replace Rd := Lib.hid (row_keep Rd.out hbx)
      replace Am := Lib.hid (Am.out.below hbx)
      replace Qm := Lib.hid (Qm.out.below hbx)
      replace BW := Lib.hid (BW.out.trans (hbx.mono BW.out.size))
      replace Ab := Lib.hid (Ab.out.below hbx)
      replace Qb := Lib.hid (Qb.out.below hbx)
      replace Ra := Lib.hid (row_keep Ra.out hbx)
      have Rb := Lib.hid (heap_alloc_new ((w5).alloc (.cells #[.slice ab 400 cb] 26)) (.cells #[.int .i64 0, .int .i64 4, .slice fb 3 pfb, .int .u16 (A1 : Nat), .int .u16 (A : Nat), .slice xb 1 pxb] 30))
      clear hbx
      have hsz : ((w5).alloc (.cells #[.slice ab 400 cb] 26)).heap.size = w5.heap.size + 1 := by simp
      rw [hsz] at Rb
      clear hsz
      obtain ⟨lRa0c17, zRa0c17⟩ := at_cell Ra.out 0 _ rfl
      clear zRa0c17
      obtain ⟨lRd0c18, zRd0c18⟩ := at_cell Rd.out 0 _ rfl
      clear zRd0c18
      obtain ⟨lRd1c19, zRd1c19⟩ := at_cell Rd.out 1 _ rfl
      clear zRd1c19
      obtain ⟨lRd2c20, zRd2c20⟩ := at_cell Rd.out 2 _ rfl
      clear zRd2c20
      obtain ⟨lRd3c21, zRd3c21⟩ := at_cell Rd.out 3 _ rfl
      clear zRd3c21
      go_wp2_with fail
      refine (next_this 4 0 A A A1 0 _ G1 [0] (tbs n) _ Ab.out (okT _ HT.out.n1) HT.out.ch (by decide) rfl (Nat.le_refl 1) (show 1 ≤ 4 by decide) (tbs_in _ HT.out.n1 HNN.out.1 HNN.out.2) rfl HA.out (by rw [HT.out.ix]; exact HA1.out) (by rw [← HA1.out]; exact HT.out.ne) HT.out.at0 0 4 (A : Nat) (A : Nat) (A1 : Nat) 0 1 rfl rfl rfl rfl (by rw [← HA1.out]) rfl rfl).mono ?_
      rintro e w6 ⟨pa, pc, rfl, hm, hb⟩
      clear lRa0c17 lRd0c18 lRd1c19 lRd2c20 lRd3c21
      replace Rm := Lib.hid (row_keep Rm.out hb)
      replace Rq := Lib.hid (row_keep Rq.out hb)
      replace Rd := Lib.hid (row_keep Rd.out hb)
      replace Am := Lib.hid (Am.out.below hb)
      replace Qm := Lib.hid (Qm.out.below hb)
      replace BW := Lib.hid (BW.out.trans (hb.mono BW.out.size))
      replace Ab := Lib.hid (Ab.out.below hb)
      replace Qb := Lib.hid (Qb.out.below hb)
      replace Ra := Lib.hid (row_keep Ra.out hb)
      replace Rb := Lib.hid (row_keep Rb.out hb)
      have Pa := Lib.hid hm
      clear hm
      clear hb
      obtain ⟨gp, rfl, hgp⟩ := Pa.out.lie (show 0 < 1 by decide)
      clear hgp
      have BWX := Lib.hid (BW.out.size)
      have HRD := Lib.hid ((Array.getElem?_eq_some_iff.1 Rd.out).1)
      have hbx : Below (w6).heap.size (w6) ((w6).alloc (.cells #[.int .i64 0, .int .i64 4, .int .u16 (A1 : Nat), .int .u16 (A : Nat)] 35)) := (Below.refl _ _).alloc (Nat.le_refl _) _
      replace Rm := Lib.hid (row_keep Rm.out hbx)
      replace Rq := Lib.hid (row_keep Rq.out hbx)
      replace Rd := Lib.hid (row_keep Rd.out hbx)
      replace Am := Lib.hid (Am.out.below hbx)
      replace Qm := Lib.hid (Qm.out.below hbx)
      replace BW := Lib.hid (BW.out.trans (hbx.mono BW.out.size))
      replace Ab := Lib.hid (Ab.out.below hbx)
      replace Qb := Lib.hid (Qb.out.below hbx)
      replace Ra := Lib.hid (row_keep Ra.out hbx)
      replace Rb := Lib.hid (row_keep Rb.out hbx)
      replace Pa := Lib.hid (Pa.out.below hbx)
      have Rs := Lib.hid (heap_alloc_new (w6) (.cells #[.int .i64 0, .int .i64 4, .int .u16 (A1 : Nat), .int .u16 (A : Nat)] 35))
      clear hbx
      have BWS := Lib.hid (show w.heap.size ≤ w6.heap.size from by have := BWX.out; exact this)
      obtain ⟨lRa0c22, zRa0c22⟩ := at_cell Ra.out 0 _ rfl
      clear zRa0c22
      obtain ⟨lRs0c23, zRs0c23⟩ := at_cell Rs.out 0 _ rfl
      clear zRs0c23
      obtain ⟨lRs1c24, zRs1c24⟩ := at_cell Rs.out 1 _ rfl
      clear zRs1c24
      obtain ⟨lRs2c25, zRs2c25⟩ := at_cell Rs.out 2 _ rfl
      clear zRs2c25
      obtain ⟨lRs3c26, zRs3c26⟩ := at_cell Rs.out 3 _ rfl
      clear zRs3c26
      go_wp2_with fail
      refine (give_this 4 0 A1 A 0 n _ G1 _ Ab.out (okT _ HT.out.n1) HA.out (by decide) (by have := HNN.out.2; omega) 0 4 (A1 : Nat) (A : Nat) (A1 : Nat) 0 (1 + (y : Nat)) 400 rfl rfl rfl rfl (by rw [← HA1.out]) rfl HNY.out HT.out.n1).mono ?_
      rintro e w7 ⟨ag, cg, rfl, hm, hb⟩
      clear lRa0c22 lRs0c23 lRs1c24 lRs2c25 lRs3c26
      replace Rm := Lib.hid (row_keep Rm.out hb)
      replace Rq := Lib.hid (row_keep Rq.out hb)
      replace Rd := Lib.hid (row_keep Rd.out hb)
      replace Am := Lib.hid (Am.out.below hb)
      replace Qm := Lib.hid (Qm.out.below hb)
      replace BW := Lib.hid (BW.out.trans (hb.mono BW.out.size))
      replace Ab := Lib.hid (Ab.out.below hb)
      replace Qb := Lib.hid (Qb.out.below hb)
      replace Ra := Lib.hid (row_keep Ra.out hb)
      replace Rb := Lib.hid (row_keep Rb.out hb)
      replace Pa := Lib.hid (Pa.out.below hb)
      replace Rs := Lib.hid (row_keep Rs.out hb)
      have Ag := Lib.hid hm
      clear hm
      clear hb
      rw [HG2.out] at Ag
      have HRM := Lib.hid ((Array.getElem?_eq_some_iff.1 Rm.out).1)
      obtain ⟨lRs0c27, zRs0c27⟩ := at_cell Rs.out 0 _ rfl
      obtain ⟨lRs1c28, zRs1c28⟩ := at_cell Rs.out 1 _ rfl
      obtain ⟨lRs2c29, zRs2c29⟩ := at_cell Rs.out 2 _ rfl
      obtain ⟨lRs3c30, zRs3c30⟩ := at_cell Rs.out 3 _ rfl
      have hls := (Array.getElem?_eq_some_iff.1 Rs.out).1
      have hlos : w.heap.size ≤ w6.heap.size := by have := BWS.out; exact this
      have Rmn := Lib.hid (one_other (one_other (one_other (one_other Rm.out ⟨w6.heap.size, 0, none⟩ (.int .i64 0) (blocks_ne Rm.out Rs.out (by decide))) ⟨w6.heap.size, 1, none⟩ (.int .i64 4) (blocks_ne Rm.out Rs.out (by decide))) ⟨w6.heap.size, 2, none⟩ (.int .u16 (A1 : Nat)) (blocks_ne Rm.out Rs.out (by decide))) ⟨w6.heap.size, 3, none⟩ (.int .u16 (A1 : Nat)) (blocks_ne Rm.out Rs.out (by decide)))
      have Rqn := Lib.hid (one_other (one_other (one_other (one_other Rq.out ⟨w6.heap.size, 0, none⟩ (.int .i64 0) (blocks_ne Rq.out Rs.out (by decide))) ⟨w6.heap.size, 1, none⟩ (.int .i64 4) (blocks_ne Rq.out Rs.out (by decide))) ⟨w6.heap.size, 2, none⟩ (.int .u16 (A1 : Nat)) (blocks_ne Rq.out Rs.out (by decide))) ⟨w6.heap.size, 3, none⟩ (.int .u16 (A1 : Nat)) (blocks_ne Rq.out Rs.out (by decide)))
      have Rdn := Lib.hid (one_other (one_other (one_other (one_other Rd.out ⟨w6.heap.size, 0, none⟩ (.int .i64 0) ((show w6.heap.size ≠ w2.heap.size from Nat.ne_of_gt HRD.out))) ⟨w6.heap.size, 1, none⟩ (.int .i64 4) ((show w6.heap.size ≠ w2.heap.size from Nat.ne_of_gt HRD.out))) ⟨w6.heap.size, 2, none⟩ (.int .u16 (A1 : Nat)) ((show w6.heap.size ≠ w2.heap.size from Nat.ne_of_gt HRD.out))) ⟨w6.heap.size, 3, none⟩ (.int .u16 (A1 : Nat)) ((show w6.heap.size ≠ w2.heap.size from Nat.ne_of_gt HRD.out)))
      have Amn := Lib.hid ((((Am.out.stay Rs.out (by decide) 0 (.int .i64 0)).stay (row_put Rs.out 0 (.int .i64 0)) (by decide) 1 (.int .i64 4)).stay (row_put (row_put Rs.out 0 (.int .i64 0)) 1 (.int .i64 4)) (by decide) 2 (.int .u16 (A1 : Nat))).stay (row_put (row_put (row_put Rs.out 0 (.int .i64 0)) 1 (.int .i64 4)) 2 (.int .u16 (A1 : Nat))) (by decide) 3 (.int .u16 (A1 : Nat)))
      have Qmn := Lib.hid ((((Qm.out.stay Rs.out (by decide) (by decide) 0 (.int .i64 0)).stay (row_put Rs.out 0 (.int .i64 0)) (by decide) (by decide) 1 (.int .i64 4)).stay (row_put (row_put Rs.out 0 (.int .i64 0)) 1 (.int .i64 4)) (by decide) (by decide) 2 (.int .u16 (A1 : Nat))).stay (row_put (row_put (row_put Rs.out 0 (.int .i64 0)) 1 (.int .i64 4)) 2 (.int .u16 (A1 : Nat))) (by decide) (by decide) 3 (.int .u16 (A1 : Nat)))
      have BWn := Lib.hid ((((BW.out.setCell (p := ⟨w6.heap.size, 0, none⟩) (hlos) (.int .i64 0)).setCell (p := ⟨w6.heap.size, 1, none⟩) (hlos) (.int .i64 4)).setCell (p := ⟨w6.heap.size, 2, none⟩) (hlos) (.int .u16 (A1 : Nat))).setCell (p := ⟨w6.heap.size, 3, none⟩) (hlos) (.int .u16 (A1 : Nat)))
      have Abn := Lib.hid ((((Ab.out.stay Rs.out (by decide) 0 (.int .i64 0)).stay (row_put Rs.out 0 (.int .i64 0)) (by decide) 1 (.int .i64 4)).stay (row_put (row_put Rs.out 0 (.int .i64 0)) 1 (.int .i64 4)) (by decide) 2 (.int .u16 (A1 : Nat))).stay (row_put (row_put (row_put Rs.out 0 (.int .i64 0)) 1 (.int .i64 4)) 2 (.int .u16 (A1 : Nat))) (by decide) 3 (.int .u16 (A1 : Nat)))
      have Qbn := Lib.hid ((((Qb.out.stay Rs.out (by decide) (by decide) 0 (.int .i64 0)).stay (row_put Rs.out 0 (.int .i64 0)) (by decide) (by decide) 1 (.int .i64 4)).stay (row_put (row_put Rs.out 0 (.int .i64 0)) 1 (.int .i64 4)) (by decide) (by decide) 2 (.int .u16 (A1 : Nat))).stay (row_put (row_put (row_put Rs.out 0 (.int .i64 0)) 1 (.int .i64 4)) 2 (.int .u16 (A1 : Nat))) (by decide) (by decide) 3 (.int .u16 (A1 : Nat)))
      have Ran := Lib.hid (one_other (one_other (one_other (one_other Ra.out ⟨w6.heap.size, 0, none⟩ (.int .i64 0) (blocks_ne Ra.out Rs.out (by decide))) ⟨w6.heap.size, 1, none⟩ (.int .i64 4) (blocks_ne Ra.out Rs.out (by decide))) ⟨w6.heap.size, 2, none⟩ (.int .u16 (A1 : Nat)) (blocks_ne Ra.out Rs.out (by decide))) ⟨w6.heap.size, 3, none⟩ (.int .u16 (A1 : Nat)) (blocks_ne Ra.out Rs.out (by decide)))
      have Rbn := Lib.hid (one_other (one_other (one_other (one_other Rb.out ⟨w6.heap.size, 0, none⟩ (.int .i64 0) (blocks_ne Rb.out Rs.out (by decide))) ⟨w6.heap.size, 1, none⟩ (.int .i64 4) (blocks_ne Rb.out Rs.out (by decide))) ⟨w6.heap.size, 2, none⟩ (.int .u16 (A1 : Nat)) (blocks_ne Rb.out Rs.out (by decide))) ⟨w6.heap.size, 3, none⟩ (.int .u16 (A1 : Nat)) (blocks_ne Rb.out Rs.out (by decide)))
      have Pan := Lib.hid ((((Pa.out.stay Rs.out (by decide) 0 (.int .i64 0)).stay (row_put Rs.out 0 (.int .i64 0)) (by decide) 1 (.int .i64 4)).stay (row_put (row_put Rs.out 0 (.int .i64 0)) 1 (.int .i64 4)) (by decide) 2 (.int .u16 (A1 : Nat))).stay (row_put (row_put (row_put Rs.out 0 (.int .i64 0)) 1 (.int .i64 4)) 2 (.int .u16 (A1 : Nat))) (by decide) 3 (.int .u16 (A1 : Nat)))
      have Agn := Lib.hid ((((Ag.out.stay Rs.out (by decide) 0 (.int .i64 0)).stay (row_put Rs.out 0 (.int .i64 0)) (by decide) 1 (.int .i64 4)).stay (row_put (row_put Rs.out 0 (.int .i64 0)) 1 (.int .i64 4)) (by decide) 2 (.int .u16 (A1 : Nat))).stay (row_put (row_put (row_put Rs.out 0 (.int .i64 0)) 1 (.int .i64 4)) 2 (.int .u16 (A1 : Nat))) (by decide) 3 (.int .u16 (A1 : Nat)))
      replace Rs := Lib.hid (row_put (row_put (row_put (row_put Rs.out 0 (.int .i64 0)) 1 (.int .i64 4)) 2 (.int .u16 (A1 : Nat))) 3 (.int .u16 (A1 : Nat)))
      replace Rm := Rmn
      replace Rq := Rqn
      replace Rd := Rdn
      replace Am := Amn
      replace Qm := Qmn
      replace BW := BWn
      replace Ab := Abn
      replace Qb := Qbn
      replace Ra := Ran
      replace Rb := Rbn
      replace Pa := Pan
      replace Ag := Agn
      try clear Rmn Rqn Rdn Amn Qmn BWn Abn Qbn Ran Rbn Pan Agn
      have hbx : Below (((((w7.setCell ⟨w6.heap.size, 0, none⟩ (.int .i64 0)).setCell ⟨w6.heap.size, 1, none⟩ (.int .i64 4)).setCell ⟨w6.heap.size, 2, none⟩ (.int .u16 (A1 : Nat))).setCell ⟨w6.heap.size, 3, none⟩ (.int .u16 (A1 : Nat)))).heap.size (((((w7.setCell ⟨w6.heap.size, 0, none⟩ (.int .i64 0)).setCell ⟨w6.heap.size, 1, none⟩ (.int .i64 4)).setCell ⟨w6.heap.size, 2, none⟩ (.int .u16 (A1 : Nat))).setCell ⟨w6.heap.size, 3, none⟩ (.int .u16 (A1 : Nat)))) ((((((w7.setCell ⟨w6.heap.size, 0, none⟩ (.int .i64 0)).setCell ⟨w6.heap.size, 1, none⟩ (.int .i64 4)).setCell ⟨w6.heap.size, 2, none⟩ (.int .u16 (A1 : Nat))).setCell ⟨w6.heap.size, 3, none⟩ (.int .u16 (A1 : Nat)))).alloc (.cells #[.slice ag 400 cg] 26)) := (Below.refl _ _).alloc (Nat.le_refl _) _
      replace Rm := Lib.hid (row_keep Rm.out hbx)
      replace Rq := Lib.hid (row_keep Rq.out hbx)
      replace Rd := Lib.hid (row_keep Rd.out hbx)
      replace Am := Lib.hid (Am.out.below hbx)
      replace Qm := Lib.hid (Qm.out.below hbx)
      replace BW := Lib.hid (BW.out.trans (hbx.mono BW.out.size))
      replace Ab := Lib.hid (Ab.out.below hbx)
      replace Qb := Lib.hid (Qb.out.below hbx)
      replace Ra := Lib.hid (row_keep Ra.out hbx)
      replace Rb := Lib.hid (row_keep Rb.out hbx)
      replace Pa := Lib.hid (Pa.out.below hbx)
      replace Rs := Lib.hid (row_keep Rs.out hbx)
      replace Ag := Lib.hid (Ag.out.below hbx)
      have Rh := Lib.hid (heap_alloc_new (((((w7.setCell ⟨w6.heap.size, 0, none⟩ (.int .i64 0)).setCell ⟨w6.heap.size, 1, none⟩ (.int .i64 4)).setCell ⟨w6.heap.size, 2, none⟩ (.int .u16 (A1 : Nat))).setCell ⟨w6.heap.size, 3, none⟩ (.int .u16 (A1 : Nat)))) (.cells #[.slice ag 400 cg] 26))
      clear hbx
      have hsz : (((((w7.setCell ⟨w6.heap.size, 0, none⟩ (.int .i64 0)).setCell ⟨w6.heap.size, 1, none⟩ (.int .i64 4)).setCell ⟨w6.heap.size, 2, none⟩ (.int .u16 (A1 : Nat))).setCell ⟨w6.heap.size, 3, none⟩ (.int .u16 (A1 : Nat)))).heap.size = w7.heap.size := by simp
      rw [hsz] at Rh
      clear hsz
      go_simp
      iterate 24 (first | go_step | go_values | go_skip | go_guarded | go_upon | go_in | go_back)
      clear lRs0c27 zRs0c27 lRs1c28 zRs1c28 lRs2c29 zRs2c29 lRs3c30 zRs3c30 hls
      obtain ⟨we, hwe⟩ : ∃ x, x = (((((w7.setCell ⟨w6.heap.size, 0, none⟩ (.int .i64 0)).setCell ⟨w6.heap.size, 1, none⟩ (.int .i64 4)).setCell ⟨w6.heap.size, 2, none⟩ (.int .u16 (A1 : Nat))).setCell ⟨w6.heap.size, 3, none⟩ (.int .u16 (A1 : Nat)))).alloc (.cells #[.slice ag 400 cg] 26) := ⟨_, rfl⟩
      rw [← hwe] at Rm Rq Rd Am Qm BW Ab Qb Ra Rb Pa Rs Ag Rh ⊢
      clear hwe
      clear hlos
      obtain ⟨lRh0c31, zRh0c31⟩ := at_cell Rh.out 0 _ rfl
      clear zRh0c31
      obtain ⟨lRb0c32, zRb0c32⟩ := at_cell Rb.out 0 _ rfl
      clear zRb0c32
      obtain ⟨lRb1c33, zRb1c33⟩ := at_cell Rb.out 1 _ rfl
      clear zRb1c33
      obtain ⟨lRb2c34, zRb2c34⟩ := at_cell Rb.out 2 _ rfl
      clear zRb2c34
      obtain ⟨lRb3c35, zRb3c35⟩ := at_cell Rb.out 3 _ rfl
      clear zRb3c35
      obtain ⟨lRb4c36, zRb4c36⟩ := at_cell Rb.out 4 _ rfl
      clear zRb4c36
      obtain ⟨lRb5c37, zRb5c37⟩ := at_cell Rb.out 5 _ rfl
      clear zRb5c37
      go_wp2_with fail
      refine (poll_this (tq1 A n) 4 0 _ _ _ _ G2 _ Ag.out Qb.out HT.out.good1 rfl (okT _ HT.out.n2) (tq A1) 0 (1 + (y : Nat)) 0 (fun q2 x y2 E h => by have h := HT.out.p q2 x y2 E h; rw [HA1.out, HNY.out] at h; exact h) 0 4 (A1 : Nat) (A : Nat) (A1 : Nat) (A1 : Nat) rfl rfl (by rw [← HA1.out]; rfl) rfl rfl rfl rfl rfl).mono ?_
      rintro e w8 ⟨Fx, Cx, Dx, rfl, hq, hb⟩
      obtain ⟨fx, pfx, rfl⟩ := hq.freeLen (show (upN 4).length = 4 from rfl)
      obtain ⟨xx, pxx, rfl⟩ := hq.chainLen (show ([] : List QCh).length = 0 from rfl)
      clear lRh0c31 lRb0c32 lRb1c33 lRb2c34 lRb3c35 lRb4c36 lRb5c37
      replace Rm := Lib.hid (row_keep Rm.out hb)
      replace Rq := Lib.hid (row_keep Rq.out hb)
      replace Rd := Lib.hid (row_keep Rd.out hb)
      replace Am := Lib.hid (Am.out.below hb)
      replace Qm := Lib.hid (Qm.out.below hb)
      replace BW := Lib.hid (BW.out.trans (hb.mono BW.out.size))
      replace Ab := Lib.hid (Ab.out.below hb)
      replace Qb := Lib.hid (Qb.out.below hb)
      replace Ra := Lib.hid (row_keep Ra.out hb)
      replace Rb := Lib.hid (row_keep Rb.out hb)
      replace Pa := Lib.hid (Pa.out.below hb)
      replace Rs := Lib.hid (row_keep Rs.out hb)
      replace Ag := Lib.hid (Ag.out.below hb)
      replace Rh := Lib.hid (row_keep Rh.out hb)
      have Qx := Lib.hid hq
      clear hq
      clear hb
      have HRQ := Lib.hid ((Array.getElem?_eq_some_iff.1 Rq.out).1)
      have hbx : Below (w8).heap.size (w8) ((w8).alloc (.cells #[.int .i64 0, .int .i64 4, .slice fx 4 pfx, .int .u16 (A1 : Nat), .int .u16 (A1 : Nat), .slice xx 0 pxx] 30)) := (Below.refl _ _).alloc (Nat.le_refl _) _
      replace Rm := Lib.hid (row_keep Rm.out hbx)
      replace Rq := Lib.hid (row_keep Rq.out hbx)
      replace Rd := Lib.hid (row_keep Rd.out hbx)
      replace Am := Lib.hid (Am.out.below hbx)
      replace Qm := Lib.hid (Qm.out.below hbx)
      replace BW := Lib.hid (BW.out.trans (hbx.mono BW.out.size))
      replace Ab := Lib.hid (Ab.out.below hbx)
      replace Qb := Lib.hid (Qb.out.below hbx)
      replace Ra := Lib.hid (row_keep Ra.out hbx)
      replace Rb := Lib.hid (row_keep Rb.out hbx)
      replace Pa := Lib.hid (Pa.out.below hbx)
      replace Rs := Lib.hid (row_keep Rs.out hbx)
      replace Ag := Lib.hid (Ag.out.below hbx)
      replace Rh := Lib.hid (row_keep Rh.out hbx)
      replace Qx := Lib.hid (Qx.out.below hbx)
      have Rx := Lib.hid (heap_alloc_new (w8) (.cells #[.int .i64 0, .int .i64 4, .slice fx 4 pfx, .int .u16 (A1 : Nat), .int .u16 (A1 : Nat), .slice xx 0 pxx] 30))
      clear hbx
      obtain ⟨lRx0c38, zRx0c38⟩ := at_cell Rx.out 0 _ rfl
      clear zRx0c38
      obtain ⟨lRx1c39, zRx1c39⟩ := at_cell Rx.out 1 _ rfl
      clear zRx1c39
      obtain ⟨lRx2c40, zRx2c40⟩ := at_cell Rx.out 2 _ rfl
      clear zRx2c40
      obtain ⟨lRx3c41, zRx3c41⟩ := at_cell Rx.out 3 _ rfl
      clear zRx3c41
      obtain ⟨lRx4c42, zRx4c42⟩ := at_cell Rx.out 4 _ rfl
      clear zRx4c42
      obtain ⟨lRx5c43, zRx5c43⟩ := at_cell Rx.out 5 _ rfl
      clear zRx5c43
      have hp1 : ((w8).alloc (.cells #[.int .i64 0, .int .i64 4, .slice fx 4 pfx, .int .u16 (A1 : Nat), .int .u16 (A1 : Nat), .slice xx 0 pxx] 30)).cell? ⟨gp, 1, none⟩ = some (.int .i64 (1 + (y : Nat))) := by
        obtain ⟨c0, c1, c2, e0, p0, p1, p2⟩ := Pa.out.at 0 (show 0 < 1 by decide)
        simp [tbs] at e0
        rw [← HNY.out, e0.2.1]
        simpa using p1
      go_wp2_with fail
      clear lRx0c38 lRx1c39 lRx2c40 lRx3c41 lRx4c42 lRx5c43 hp1
      obtain ⟨wx, hwx⟩ : ∃ x, x = (w8).alloc (.cells #[.int .i64 0, .int .i64 4, .slice fx 4 pfx, .int .u16 (A1 : Nat), .int .u16 (A1 : Nat), .slice xx 0 pxx] 30) := ⟨_, rfl⟩
      rw [← hwx] at Rm Rq Rd Am Qm BW Ab Qb Ra Rb Pa Rs Ag Rh Qx Rx ⊢
      clear hwx
      refine wp_region_rec (X := QueTuA) (by kernel_rfl) (by kernel_rfl) (fun x => #[x.b0, x.b1, x.b2, x.b3, x.b4, x.b5]) (fun x => { tmps := List.toArray ((.int .u16 (k : Nat)) :: (.slice (some ⟨bx, off, none⟩) vn vc) :: (.int .i64 z) :: undef :: undef :: undef :: u6 :: (.pointer (some ⟨w1.heap.size, 0, none⟩)) :: (.pointer (some ⟨w1.heap.size + 1, 0, none⟩)) :: (.int .i64 0) :: (.pointer (some ⟨w2.heap.size, 0, none⟩)) :: (.int .i64 0) :: (.int .i64 (j : Nat)) :: (.int .i64 (1 + (y : Nat))) :: (.pointer (some ⟨w5.heap.size, 0, none⟩)) :: (.pointer (some ⟨w5.heap.size + 1, 0, none⟩)) :: (.int .i64 0) :: (.int .i64 0) :: (.pointer (some ⟨w6.heap.size, 0, none⟩)) :: (.int .i64 0) :: (.slice (some ⟨gp, 0, none⟩) 1 pc) :: (.int .i64 0) :: (.pointer (some ⟨w7.heap.size, 0, none⟩)) :: (.int .i64 0) :: (.pointer (some ⟨w8.heap.size, 0, none⟩)) :: (.int .i64 0) :: (.int .i64 (1 + (y : Nat))) :: (.int .i64 0) :: (.slice (some ⟨bx, off, none⟩) vn vc) :: (.int .i64 (vn : Nat)) :: (.bool (decide ((40 : Int) < ((vn : Nat) : Int)))) :: (.bool (decide ((40 : Int) < ((vn : Nat) : Int)))) :: (.int .i64 z) :: (.bool (decide (z < 0))) :: (.bool (decide ((40 : Int) < ((vn : Nat) : Int)) || decide (z < 0))) :: undef :: (.tuple #[.agg #[.slice aa 400 ca], .agg #[.int .i64 0, .int .i64 4, .slice fa 4 pfa, .int .u16 0, .int .u16 0, .slice xa 0 pxa], .int .i64 0]) :: (.slice (some ⟨w.heap.size, 0, none⟩) 400 400) :: (.agg #[.slice (some ⟨w.heap.size, 0, none⟩) 400 400]) :: (.tuple #[.agg #[.slice aa 400 ca], .agg #[.int .i64 0, .int .i64 4, .slice fa 4 pfa, .int .u16 0, .int .u16 0, .slice xa 0 pxa], .int .i64 0]) :: (.agg #[.slice aa 400 ca]) :: (.agg #[.int .i64 0, .int .i64 4, .slice fa 4 pfa, .int .u16 0, .int .u16 0, .slice xa 0 pxa]) :: (.int .i64 0) :: (.agg #[.int .i64 0, .int .i64 4, .int .u16 0, .int .u16 0]) :: (.pointer (some ⟨w1.heap.size, 0, none⟩)) :: (.slice aa 400 ca) :: (.int .i64 400) :: (.bool false) :: (.int .u16 (k : Nat)) :: (.int .u16 (k : Nat)) :: (.int .u16 (k : Nat)) :: (.int .u16 (k : Nat)) :: (.pointer (some ⟨w1.heap.size + 1, 3, none⟩)) :: (.pointer (some ⟨w1.heap.size + 1, 4, none⟩)) :: (.pointer (some ⟨w2.heap.size, 2, none⟩)) :: (.pointer (some ⟨w2.heap.size, 3, none⟩)) :: (.tuple #[.agg #[.slice au 400 cu], .int .i64 0]) :: (.agg #[.slice aa 400 ca]) :: (.int .u16 (k : Nat)) :: (.int .u16 (km : Nat)) :: (.agg #[.int .u32 0, .int .u32 0]) :: (.tuple #[.agg #[.slice au 400 cu], .int .i64 0]) :: (.agg #[.slice au 400 cu]) :: (.int .i64 0) :: (.int .i64 0) :: (.bool false) :: (.bool false) :: (.int .i64 0) :: (.bool false) :: (.bool false) :: (.tuple #[.agg #[.slice ac 400 cc], .int .i64 0]) :: (.agg #[.slice au 400 cu]) :: (.int .u16 (k : Nat)) :: (.int .u16 (km : Nat)) :: (.tuple #[.agg #[.slice ac 400 cc], .int .i64 0]) :: (.agg #[.slice ac 400 cc]) :: (.int .i64 0) :: (.int .i64 (j : Nat)) :: (.slice (some ⟨bx, off, none⟩) vn vc) :: (.int .i64 (vn : Nat)) :: (.bool true) :: u81 :: u82 :: (.slice (some ⟨bx, off, none⟩) vn vc) :: (.int .i64 (j : Nat)) :: (.pointer (some ⟨bx, off + j, none⟩)) :: (.int .i64 xj) :: (.int .i64 (y : Nat)) :: (.int .i64 (1 + (y : Nat))) :: (.tuple #[.agg #[.slice ab 400 cb], .agg #[.int .i64 0, .int .i64 4, .slice fb 3 pfb, .int .u16 (A1 : Nat), .int .u16 (A : Nat), .slice xb 1 pxb], .int .i64 0, .int .i64 0]) :: (.agg #[.slice am 400 cm]) :: (.agg #[.int .i64 0, .int .i64 4, .slice fm 4 pf, .int .u16 (A : Nat), .int .u16 (A : Nat), .slice xm 0 px]) :: (.int .i64 (1 + (y : Nat))) :: (.agg #[.int .i64 200, .int .i64 (1 + (y : Nat)), .bool true]) :: (.slice (some ⟨wr.heap.size, 0, none⟩) 1 1) :: (.tuple #[.agg #[.slice ab 400 cb], .agg #[.int .i64 0, .int .i64 4, .slice fb 3 pfb, .int .u16 (A1 : Nat), .int .u16 (A : Nat), .slice xb 1 pxb], .int .i64 0, .int .i64 0]) :: (.agg #[.slice ab 400 cb]) :: (.agg #[.int .i64 0, .int .i64 4, .slice fb 3 pfb, .int .u16 (A1 : Nat), .int .u16 (A : Nat), .slice xb 1 pxb]) :: (.int .i64 0) :: (.int .i64 0) :: (.tuple #[.agg #[.int .i64 0, .int .i64 4, .int .u16 (A1 : Nat), .int .u16 (A : Nat)], .int .i64 0, .slice (some ⟨gp, 0, none⟩) 1 pc, .int .i64 0]) :: (.agg #[.slice ab 400 cb]) :: (.agg #[.int .i64 0, .int .i64 4, .int .u16 (A : Nat), .int .u16 (A : Nat)]) :: (.tuple #[.agg #[.int .i64 0, .int .i64 4, .int .u16 (A1 : Nat), .int .u16 (A : Nat)], .int .i64 0, .slice (some ⟨gp, 0, none⟩) 1 pc, .int .i64 0]) :: (.agg #[.int .i64 0, .int .i64 4, .int .u16 (A1 : Nat), .int .u16 (A : Nat)]) :: (.int .i64 0) :: (.slice (some ⟨gp, 0, none⟩) 1 pc) :: (.int .i64 0) :: (.tuple #[.agg #[.slice ag 400 cg], .agg #[.int .i64 0, .int .i64 4, .int .u16 (A1 : Nat), .int .u16 (A1 : Nat)], .int .i64 0]) :: (.agg #[.slice ab 400 cb]) :: (.agg #[.int .i64 0, .int .i64 4, .int .u16 (A1 : Nat), .int .u16 (A : Nat)]) :: (.int .i64 0) :: (.int .i64 (1 + (y : Nat))) :: (.tuple #[.agg #[.slice ag 400 cg], .agg #[.int .i64 0, .int .i64 4, .int .u16 (A1 : Nat), .int .u16 (A1 : Nat)], .int .i64 0]) :: (.agg #[.slice ag 400 cg]) :: (.agg #[.int .i64 0, .int .i64 4, .int .u16 (A1 : Nat), .int .u16 (A1 : Nat)]) :: (.int .i64 0) :: (.tuple #[.agg #[.int .i64 0, .int .i64 4, .slice fx 4 pfx, .int .u16 (A1 : Nat), .int .u16 (A1 : Nat), .slice xx 0 pxx], .int .i64 0, .int .i64 (1 + (y : Nat)), .int .i64 0]) :: (.agg #[.slice ag 400 cg]) :: (.agg #[.int .i64 0, .int .i64 4, .slice fb 3 pfb, .int .u16 (A1 : Nat), .int .u16 (A : Nat), .slice xb 1 pxb]) :: (.tuple #[.agg #[.int .i64 0, .int .i64 4, .slice fx 4 pfx, .int .u16 (A1 : Nat), .int .u16 (A1 : Nat), .slice xx 0 pxx], .int .i64 0, .int .i64 (1 + (y : Nat)), .int .i64 0]) :: (.agg #[.int .i64 0, .int .i64 4, .slice fx 4 pfx, .int .u16 (A1 : Nat), .int .u16 (A1 : Nat), .slice xx 0 pxx]) :: (.int .i64 0) :: (.int .i64 (1 + (y : Nat))) :: (.int .i64 0) :: (.int .i64 0) :: (.bool false) :: (.bool false) :: (.int .i64 0) :: (.bool false) :: (.bool false) :: (.bool false) :: (.int .i64 0) :: (.bool false) :: (.bool false) :: (.bool false) :: (.int .i64 0) :: (.bool false) :: (.bool false) :: (.bool false) :: (.int .i64 0) :: (.int .i64 0) :: (.bool false) :: (.bool false) :: (.bool false) :: (.int .i64 0) :: (.int .i64 0) :: (.bool false) :: (.bool false) :: (.bool false) :: (.int .i64 (1 + (y : Nat))) :: (.int .i64 (1 + (y : Nat))) :: (.bool false) :: (.bool false) :: (.bool false) :: (.slice (some ⟨gp, 0, none⟩) 1 pc) :: (.int .i64 1) :: (.bool false) :: (.bool false) :: (.bool false) :: (.slice (some ⟨gp, 0, none⟩) 1 pc) :: (.pointer (some ⟨gp, 0, none⟩)) :: (.pointer (some ⟨gp, 1, none⟩)) :: (.int .i64 (1 + (y : Nat))) :: (.int .i64 (1 + (y : Nat))) :: (.bool false) :: (.bool false) :: (.bool false) :: (.pointer (some ⟨w8.heap.size, 2, none⟩)) :: (.slice fx 4 pfx) :: (.int .i64 4) :: (.bool false) :: (.bool false) :: x.s173 :: x.s174 :: x.s175 :: undef :: undef :: undef :: undef :: undef :: undef :: undef :: undef :: undef :: undef :: undef :: undef :: undef :: undef :: undef :: []), defers := [] }) (fun x W => (x.b0 = true → x.s173 = .agg #[.slice ag 400 cg]) ∧ (x.b1 = true → x.s174 = .agg #[.int .i64 0, .int .i64 4, .slice fx 4 pfx, .int .u16 (A1 : Nat), .int .u16 (A1 : Nat), .slice xx 0 pxx]) ∧ (x.b2 = true → x.s175 = .agg #[.int .i64 0, .int .i64 4, .int .u16 (A1 : Nat), .int .u16 (A1 : Nat)]) ∧ (x.b4 = true → x.b3 = true) ∧ (x.b5 = true → x.b3 = true ∧ x.b4 = true) ∧ (W.heap[w7.heap.size]? = some (.cells #[.slice ag 400 cg] 26 (0, 0))) ∧ (W.heap[w8.heap.size]? = some (.cells #[.int .i64 0, .int .i64 4, .slice fx 4 pfx, .int .u16 (A1 : Nat), .int .u16 (A1 : Nat), .slice xx 0 pxx] 30 (0, 0))) ∧ (W.heap[w6.heap.size]? = some (.cells #[.int .i64 0, .int .i64 4, .int .u16 (A1 : Nat), .int .u16 (A1 : Nat)] 35 (0, 0))) ∧ (x.b3 = false → W.heap[w1.heap.size]? = some (.cells #[.slice am 400 cm] 26 (0, 0))) ∧ (x.b3 = true → W.heap[w1.heap.size]? = some (.cells #[.slice ag 400 cg] 26 (0, 0))) ∧ (x.b4 = false → W.heap[w1.heap.size + 1]? = some (.cells #[.int .i64 0, .int .i64 4, .slice fm 4 pf, .int .u16 (A : Nat), .int .u16 (A : Nat), .slice xm 0 px] 30 (0, 0))) ∧ (x.b4 = true → W.heap[w1.heap.size + 1]? = some (.cells #[.int .i64 0, .int .i64 4, .slice fx 4 pfx, .int .u16 (A1 : Nat), .int .u16 (A1 : Nat), .slice xx 0 pxx] 30 (0, 0))) ∧ (x.b5 = false → W.heap[w2.heap.size]? = some (.cells #[.int .i64 0, .int .i64 4, .int .u16 (A : Nat), .int .u16 (A : Nat)] 35 (0, 0))) ∧ (x.b5 = true → W.heap[w2.heap.size]? = some (.cells #[.int .i64 0, .int .i64 4, .int .u16 (A1 : Nat), .int .u16 (A1 : Nat)] 35 (0, 0))) ∧ (Below w.heap.size w W) ∧ (OwnB 0 W (.slice ag 400 cg) G2) ∧ (IsQ 0 W (.slice fx 4 pfx) (.slice xx 0 pxx) (tq A1) Dx)) ⟨false, false, false, false, false, false, u173, u174, u175⟩ rfl rfl ⟨(fun h => by cases h), (fun h => by cases h), (fun h => by cases h), (fun h => by cases h), (fun h => by cases h), Rh.out, Rx.out, Rs.out, (fun _ => Rm.out), (fun h => by cases h), (fun _ => Rq.out), (fun h => by cases h), (fun _ => Rd.out), (fun h => by cases h), BW.out.drew, Ag.out.drew, Qx.out.drew⟩ (fun _ => rfl) ?hstep ?hdone
      case hstep =>
        rintro ⟨b0, b1, b2, b3, b4, b5, s173, s174, s175⟩ W hI i hi
        dsimp only at hI hi ⊢
        have HI := Lib.hid hI
        clear hI
        rw [Region.ready, List.mem_filter, List.mem_range] at hi
        obtain ⟨hlt, hp⟩ := hi
        have hi7 : i = 0 ∨ i = 1 ∨ i = 2 ∨ i = 3 ∨ i = 4 ∨ i = 5 := by simp at hlt; omega
        clear hlt
        rcases hi7 with rfl | rfl | rfl | rfl | rfl | rfl
        all_goals simp [Region.binds] at hp
        · have hn0 : b0 = false := by revert hp; cases b0 <;> simp
          clear hp
          subst hn0
          refine inv_op (o := ⟨some 173, _, _, _, _, _⟩) rfl (fun K' hK' => ?_)
          have rH := HI.out.2.2.2.2.2.1
          obtain ⟨hc0, _⟩ := at_cell rH 0 _ rfl
          go_simp
          obtain ⟨h0, h1, h2, gi4, gi5, rH, rX, rS, rM0, rM1, rQ0, rQ1, rD0, rD1, gB, gO, gI⟩ := HI.out
          exact hK'.out _ _ ⟨⟨true, b1, b2, b3, b4, b5, _, s174, s175⟩, rfl, rfl, (fun _ => rfl), h1, h2, gi4, gi5, rH, rX, rS, rM0, rM1, rQ0, rQ1, rD0, rD1, gB, gO, gI⟩
        · have hn1 : b1 = false := by revert hp; cases b1 <;> simp
          clear hp
          subst hn1
          refine inv_op (o := ⟨some 174, _, _, _, _, _⟩) rfl (fun K' hK' => ?_)
          have rX := HI.out.2.2.2.2.2.2.1
          obtain ⟨hc0, _⟩ := at_cell rX 0 _ rfl
          obtain ⟨hc1, _⟩ := at_cell rX 1 _ rfl
          obtain ⟨hc2, _⟩ := at_cell rX 2 _ rfl
          obtain ⟨hc3, _⟩ := at_cell rX 3 _ rfl
          obtain ⟨hc4, _⟩ := at_cell rX 4 _ rfl
          obtain ⟨hc5, _⟩ := at_cell rX 5 _ rfl
          go_simp
          obtain ⟨h0, h1, h2, gi4, gi5, rH, rX, rS, rM0, rM1, rQ0, rQ1, rD0, rD1, gB, gO, gI⟩ := HI.out
          exact hK'.out _ _ ⟨⟨b0, true, b2, b3, b4, b5, s173, _, s175⟩, rfl, rfl, h0, (fun _ => rfl), h2, gi4, gi5, rH, rX, rS, rM0, rM1, rQ0, rQ1, rD0, rD1, gB, gO, gI⟩
        · have hn2 : b2 = false := by revert hp; cases b2 <;> simp
          clear hp
          subst hn2
          refine inv_op (o := ⟨some 175, _, _, _, _, _⟩) rfl (fun K' hK' => ?_)
          have rS := HI.out.2.2.2.2.2.2.2.1
          obtain ⟨hc0, _⟩ := at_cell rS 0 _ rfl
          obtain ⟨hc1, _⟩ := at_cell rS 1 _ rfl
          obtain ⟨hc2, _⟩ := at_cell rS 2 _ rfl
          obtain ⟨hc3, _⟩ := at_cell rS 3 _ rfl
          go_simp
          obtain ⟨h0, h1, h2, gi4, gi5, rH, rX, rS, rM0, rM1, rQ0, rQ1, rD0, rD1, gB, gO, gI⟩ := HI.out
          exact hK'.out _ _ ⟨⟨b0, b1, true, b3, b4, b5, s173, s174, _⟩, rfl, rfl, h0, h1, (fun _ => rfl), gi4, gi5, rH, rX, rS, rM0, rM1, rQ0, rQ1, rD0, rD1, gB, gO, gI⟩
        · have hn3 : b3 = false := by revert hp; cases b3 <;> simp
          have e0 : b0 = true := by revert hp; cases b0 <;> simp
          clear hp
          obtain rfl := (HI.out.1) e0
          subst hn3
          refine inv_op (o := ⟨none, _, _, _, _, _⟩) rfl (fun K' hK' => ?_)
          have gi4 := HI.out.2.2.2.1
          have gi5 := HI.out.2.2.2.2.1
          have rM0 := HI.out.2.2.2.2.2.2.2.2.1
          have hbf4 : b4 = false := by cases b4 with | false => rfl | true => exact absurd ((gi4 rfl)) (by decide)
          subst hbf4
          have hbf5 : b5 = false := by cases b5 with | false => rfl | true => exact absurd ((gi5 rfl).1) (by decide)
          subst hbf5
          obtain ⟨hc0, hz0⟩ := at_cell (rM0 rfl) 0 _ rfl
          have hlt := (Array.getElem?_eq_some_iff.1 (rM0 rfl)).1
          go_simp
          obtain ⟨h0, h1, h2, gi4, gi5, rH, rX, rS, rM0, rM1, rQ0, rQ1, rD0, rD1, gB, gO, gI⟩ := HI.out
          exact hK'.out _ _ ⟨⟨b0, b1, b2, true, false, false, _, s174, s175⟩, rfl, rfl, h0, h1, h2, (fun e => by cases e), (fun e => by cases e), (one_other rH ⟨w1.heap.size, 0, none⟩ (.slice ag 400 cg) (show w1.heap.size ≠ w7.heap.size from Nat.ne_of_lt HRM.out)), (one_other rX ⟨w1.heap.size, 0, none⟩ (.slice ag 400 cg) (blocks_ne rX (rM0 rfl) (by decide))), (one_other rS ⟨w1.heap.size, 0, none⟩ (.slice ag 400 cg) (blocks_ne rS (rM0 rfl) (by decide))), (fun e => by cases e), (fun _ => (row_put (rM0 rfl) 0 (.slice ag 400 cg))), (fun e => (one_other (rQ0 e) ⟨w1.heap.size, 0, none⟩ (.slice ag 400 cg) (blocks_ne (rQ0 e) (rM0 rfl) (by decide)))), (fun e => by cases e), (fun e => (one_other (rD0 e) ⟨w1.heap.size, 0, none⟩ (.slice ag 400 cg) (blocks_ne (rD0 e) (rM0 rfl) (by decide)))), (fun e => by cases e), (gB.setCell (p := ⟨w1.heap.size, 0, none⟩) HS1.out (.slice ag 400 cg)), (gO.stay (rM0 rfl) (by decide) 0 (.slice ag 400 cg)), (gI.stay (rM0 rfl) (by decide) (by decide) 0 (.slice ag 400 cg))⟩
        · have hn4 : b4 = false := by revert hp; cases b4 <;> simp
          have e1 : b1 = true := by revert hp; cases b1 <;> simp
          have e3 : b3 = true := by revert hp; cases b3 <;> simp
          clear hp
          obtain rfl := (HI.out.2.1) e1
          subst hn4
          refine inv_op (o := ⟨none, _, _, _, _, _⟩) rfl (fun K' hK' => ?_)
          have gi5 := HI.out.2.2.2.2.1
          have rQ0 := HI.out.2.2.2.2.2.2.2.2.2.2.1
          have hbf5 : b5 = false := by cases b5 with | false => rfl | true => exact absurd ((gi5 rfl).2) (by decide)
          subst hbf5
          obtain ⟨hc0, hz0⟩ := at_cell (rQ0 rfl) 0 _ rfl
          obtain ⟨hc1, hz1⟩ := at_cell (rQ0 rfl) 1 _ rfl
          obtain ⟨hc2, hz2⟩ := at_cell (rQ0 rfl) 2 _ rfl
          obtain ⟨hc3, hz3⟩ := at_cell (rQ0 rfl) 3 _ rfl
          obtain ⟨hc4, hz4⟩ := at_cell (rQ0 rfl) 4 _ rfl
          obtain ⟨hc5, hz5⟩ := at_cell (rQ0 rfl) 5 _ rfl
          have hlt := (Array.getElem?_eq_some_iff.1 (rQ0 rfl)).1
          go_simp
          obtain ⟨h0, h1, h2, gi4, gi5, rH, rX, rS, rM0, rM1, rQ0, rQ1, rD0, rD1, gB, gO, gI⟩ := HI.out
          exact hK'.out _ _ ⟨⟨b0, b1, b2, b3, true, false, s173, _, s175⟩, rfl, rfl, h0, h1, h2, (fun _ => e3), (fun e => by cases e), (one_other (one_other (one_other (one_other (one_other (one_other rH ⟨w1.heap.size + 1, 0, none⟩ (.int .i64 0) (blocks_ne rH (rQ0 rfl) (by decide))) ⟨w1.heap.size + 1, 1, none⟩ (.int .i64 4) (blocks_ne rH (rQ0 rfl) (by decide))) ⟨w1.heap.size + 1, 2, none⟩ (.slice fx 4 pfx) (blocks_ne rH (rQ0 rfl) (by decide))) ⟨w1.heap.size + 1, 3, none⟩ (.int .u16 (A1 : Nat)) (blocks_ne rH (rQ0 rfl) (by decide))) ⟨w1.heap.size + 1, 4, none⟩ (.int .u16 (A1 : Nat)) (blocks_ne rH (rQ0 rfl) (by decide))) ⟨w1.heap.size + 1, 5, none⟩ (.slice xx 0 pxx) (blocks_ne rH (rQ0 rfl) (by decide))), (one_other (one_other (one_other (one_other (one_other (one_other rX ⟨w1.heap.size + 1, 0, none⟩ (.int .i64 0) (show w1.heap.size + 1 ≠ w8.heap.size from Nat.ne_of_lt HRQ.out)) ⟨w1.heap.size + 1, 1, none⟩ (.int .i64 4) (show w1.heap.size + 1 ≠ w8.heap.size from Nat.ne_of_lt HRQ.out)) ⟨w1.heap.size + 1, 2, none⟩ (.slice fx 4 pfx) (show w1.heap.size + 1 ≠ w8.heap.size from Nat.ne_of_lt HRQ.out)) ⟨w1.heap.size + 1, 3, none⟩ (.int .u16 (A1 : Nat)) (show w1.heap.size + 1 ≠ w8.heap.size from Nat.ne_of_lt HRQ.out)) ⟨w1.heap.size + 1, 4, none⟩ (.int .u16 (A1 : Nat)) (show w1.heap.size + 1 ≠ w8.heap.size from Nat.ne_of_lt HRQ.out)) ⟨w1.heap.size + 1, 5, none⟩ (.slice xx 0 pxx) (show w1.heap.size + 1 ≠ w8.heap.size from Nat.ne_of_lt HRQ.out)), (one_other (one_other (one_other (one_other (one_other (one_other rS ⟨w1.heap.size + 1, 0, none⟩ (.int .i64 0) (blocks_ne rS (rQ0 rfl) (by decide))) ⟨w1.heap.size + 1, 1, none⟩ (.int .i64 4) (blocks_ne rS (rQ0 rfl) (by decide))) ⟨w1.heap.size + 1, 2, none⟩ (.slice fx 4 pfx) (blocks_ne rS (rQ0 rfl) (by decide))) ⟨w1.heap.size + 1, 3, none⟩ (.int .u16 (A1 : Nat)) (blocks_ne rS (rQ0 rfl) (by decide))) ⟨w1.heap.size + 1, 4, none⟩ (.int .u16 (A1 : Nat)) (blocks_ne rS (rQ0 rfl) (by decide))) ⟨w1.heap.size + 1, 5, none⟩ (.slice xx 0 pxx) (blocks_ne rS (rQ0 rfl) (by decide))), (fun e => (one_other (one_other (one_other (one_other (one_other (one_other (rM0 e) ⟨w1.heap.size + 1, 0, none⟩ (.int .i64 0) (blocks_ne (rM0 e) (rQ0 rfl) (by decide))) ⟨w1.heap.size + 1, 1, none⟩ (.int .i64 4) (blocks_ne (rM0 e) (rQ0 rfl) (by decide))) ⟨w1.heap.size + 1, 2, none⟩ (.slice fx 4 pfx) (blocks_ne (rM0 e) (rQ0 rfl) (by decide))) ⟨w1.heap.size + 1, 3, none⟩ (.int .u16 (A1 : Nat)) (blocks_ne (rM0 e) (rQ0 rfl) (by decide))) ⟨w1.heap.size + 1, 4, none⟩ (.int .u16 (A1 : Nat)) (blocks_ne (rM0 e) (rQ0 rfl) (by decide))) ⟨w1.heap.size + 1, 5, none⟩ (.slice xx 0 pxx) (blocks_ne (rM0 e) (rQ0 rfl) (by decide)))), (fun e => (one_other (one_other (one_other (one_other (one_other (one_other (rM1 e) ⟨w1.heap.size + 1, 0, none⟩ (.int .i64 0) (blocks_ne (rM1 e) (rQ0 rfl) (by decide))) ⟨w1.heap.size + 1, 1, none⟩ (.int .i64 4) (blocks_ne (rM1 e) (rQ0 rfl) (by decide))) ⟨w1.heap.size + 1, 2, none⟩ (.slice fx 4 pfx) (blocks_ne (rM1 e) (rQ0 rfl) (by decide))) ⟨w1.heap.size + 1, 3, none⟩ (.int .u16 (A1 : Nat)) (blocks_ne (rM1 e) (rQ0 rfl) (by decide))) ⟨w1.heap.size + 1, 4, none⟩ (.int .u16 (A1 : Nat)) (blocks_ne (rM1 e) (rQ0 rfl) (by decide))) ⟨w1.heap.size + 1, 5, none⟩ (.slice xx 0 pxx) (blocks_ne (rM1 e) (rQ0 rfl) (by decide)))), (fun e => by cases e), (fun _ => (row_put (row_put (row_put (row_put (row_put (row_put (rQ0 rfl) 0 (.int .i64 0)) 1 (.int .i64 4)) 2 (.slice fx 4 pfx)) 3 (.int .u16 (A1 : Nat))) 4 (.int .u16 (A1 : Nat))) 5 (.slice xx 0 pxx))), (fun e => (one_other (one_other (one_other (one_other (one_other (one_other (rD0 e) ⟨w1.heap.size + 1, 0, none⟩ (.int .i64 0) (blocks_ne (rD0 e) (rQ0 rfl) (by decide))) ⟨w1.heap.size + 1, 1, none⟩ (.int .i64 4) (blocks_ne (rD0 e) (rQ0 rfl) (by decide))) ⟨w1.heap.size + 1, 2, none⟩ (.slice fx 4 pfx) (blocks_ne (rD0 e) (rQ0 rfl) (by decide))) ⟨w1.heap.size + 1, 3, none⟩ (.int .u16 (A1 : Nat)) (blocks_ne (rD0 e) (rQ0 rfl) (by decide))) ⟨w1.heap.size + 1, 4, none⟩ (.int .u16 (A1 : Nat)) (blocks_ne (rD0 e) (rQ0 rfl) (by decide))) ⟨w1.heap.size + 1, 5, none⟩ (.slice xx 0 pxx) (blocks_ne (rD0 e) (rQ0 rfl) (by decide)))), (fun e => by cases e), ((((((gB.setCell (p := ⟨w1.heap.size + 1, 0, none⟩) (by show w.heap.size ≤ w1.heap.size + 1; have := HS1.out; omega) (.int .i64 0)).setCell (p := ⟨w1.heap.size + 1, 1, none⟩) (by show w.heap.size ≤ w1.heap.size + 1; have := HS1.out; omega) (.int .i64 4)).setCell (p := ⟨w1.heap.size + 1, 2, none⟩) (by show w.heap.size ≤ w1.heap.size + 1; have := HS1.out; omega) (.slice fx 4 pfx)).setCell (p := ⟨w1.heap.size + 1, 3, none⟩) (by show w.heap.size ≤ w1.heap.size + 1; have := HS1.out; omega) (.int .u16 (A1 : Nat))).setCell (p := ⟨w1.heap.size + 1, 4, none⟩) (by show w.heap.size ≤ w1.heap.size + 1; have := HS1.out; omega) (.int .u16 (A1 : Nat))).setCell (p := ⟨w1.heap.size + 1, 5, none⟩) (by show w.heap.size ≤ w1.heap.size + 1; have := HS1.out; omega) (.slice xx 0 pxx)), ((((((gO.stay (rQ0 rfl) (by decide) 0 (.int .i64 0)).stay (row_put (rQ0 rfl) 0 (.int .i64 0)) (by decide) 1 (.int .i64 4)).stay (row_put (row_put (rQ0 rfl) 0 (.int .i64 0)) 1 (.int .i64 4)) (by decide) 2 (.slice fx 4 pfx)).stay (row_put (row_put (row_put (rQ0 rfl) 0 (.int .i64 0)) 1 (.int .i64 4)) 2 (.slice fx 4 pfx)) (by decide) 3 (.int .u16 (A1 : Nat))).stay (row_put (row_put (row_put (row_put (rQ0 rfl) 0 (.int .i64 0)) 1 (.int .i64 4)) 2 (.slice fx 4 pfx)) 3 (.int .u16 (A1 : Nat))) (by decide) 4 (.int .u16 (A1 : Nat))).stay (row_put (row_put (row_put (row_put (row_put (rQ0 rfl) 0 (.int .i64 0)) 1 (.int .i64 4)) 2 (.slice fx 4 pfx)) 3 (.int .u16 (A1 : Nat))) 4 (.int .u16 (A1 : Nat))) (by decide) 5 (.slice xx 0 pxx)), ((((((gI.stay (rQ0 rfl) (by decide) (by decide) 0 (.int .i64 0)).stay (row_put (rQ0 rfl) 0 (.int .i64 0)) (by decide) (by decide) 1 (.int .i64 4)).stay (row_put (row_put (rQ0 rfl) 0 (.int .i64 0)) 1 (.int .i64 4)) (by decide) (by decide) 2 (.slice fx 4 pfx)).stay (row_put (row_put (row_put (rQ0 rfl) 0 (.int .i64 0)) 1 (.int .i64 4)) 2 (.slice fx 4 pfx)) (by decide) (by decide) 3 (.int .u16 (A1 : Nat))).stay (row_put (row_put (row_put (row_put (rQ0 rfl) 0 (.int .i64 0)) 1 (.int .i64 4)) 2 (.slice fx 4 pfx)) 3 (.int .u16 (A1 : Nat))) (by decide) (by decide) 4 (.int .u16 (A1 : Nat))).stay (row_put (row_put (row_put (row_put (row_put (rQ0 rfl) 0 (.int .i64 0)) 1 (.int .i64 4)) 2 (.slice fx 4 pfx)) 3 (.int .u16 (A1 : Nat))) 4 (.int .u16 (A1 : Nat))) (by decide) (by decide) 5 (.slice xx 0 pxx))⟩
        · have hn5 : b5 = false := by revert hp; cases b5 <;> simp
          have e2 : b2 = true := by revert hp; cases b2 <;> simp
          have e4 : b4 = true := by revert hp; cases b4 <;> simp
          have e3 : b3 = true := by revert hp; cases b3 <;> simp
          clear hp
          obtain rfl := (HI.out.2.2.1) e2
          subst hn5
          refine inv_op (o := ⟨none, _, _, _, _, _⟩) rfl (fun K' hK' => ?_)
          have rD0 := HI.out.2.2.2.2.2.2.2.2.2.2.2.2.1
          obtain ⟨hc0, hz0⟩ := at_cell (rD0 rfl) 0 _ rfl
          obtain ⟨hc1, hz1⟩ := at_cell (rD0 rfl) 1 _ rfl
          obtain ⟨hc2, hz2⟩ := at_cell (rD0 rfl) 2 _ rfl
          obtain ⟨hc3, hz3⟩ := at_cell (rD0 rfl) 3 _ rfl
          have hlt := (Array.getElem?_eq_some_iff.1 (rD0 rfl)).1
          go_simp
          obtain ⟨h0, h1, h2, gi4, gi5, rH, rX, rS, rM0, rM1, rQ0, rQ1, rD0, rD1, gB, gO, gI⟩ := HI.out
          exact hK'.out _ _ ⟨⟨b0, b1, b2, b3, b4, true, s173, s174, _⟩, rfl, rfl, h0, h1, h2, gi4, (fun _ => ⟨e3, e4⟩), (one_other (one_other (one_other (one_other rH ⟨w2.heap.size, 0, none⟩ (.int .i64 0) (blocks_ne rH (rD0 rfl) (by decide))) ⟨w2.heap.size, 1, none⟩ (.int .i64 4) (blocks_ne rH (rD0 rfl) (by decide))) ⟨w2.heap.size, 2, none⟩ (.int .u16 (A1 : Nat)) (blocks_ne rH (rD0 rfl) (by decide))) ⟨w2.heap.size, 3, none⟩ (.int .u16 (A1 : Nat)) (blocks_ne rH (rD0 rfl) (by decide))), (one_other (one_other (one_other (one_other rX ⟨w2.heap.size, 0, none⟩ (.int .i64 0) (blocks_ne rX (rD0 rfl) (by decide))) ⟨w2.heap.size, 1, none⟩ (.int .i64 4) (blocks_ne rX (rD0 rfl) (by decide))) ⟨w2.heap.size, 2, none⟩ (.int .u16 (A1 : Nat)) (blocks_ne rX (rD0 rfl) (by decide))) ⟨w2.heap.size, 3, none⟩ (.int .u16 (A1 : Nat)) (blocks_ne rX (rD0 rfl) (by decide))), (one_other (one_other (one_other (one_other rS ⟨w2.heap.size, 0, none⟩ (.int .i64 0) (show w2.heap.size ≠ w6.heap.size from Nat.ne_of_lt HRD.out)) ⟨w2.heap.size, 1, none⟩ (.int .i64 4) (show w2.heap.size ≠ w6.heap.size from Nat.ne_of_lt HRD.out)) ⟨w2.heap.size, 2, none⟩ (.int .u16 (A1 : Nat)) (show w2.heap.size ≠ w6.heap.size from Nat.ne_of_lt HRD.out)) ⟨w2.heap.size, 3, none⟩ (.int .u16 (A1 : Nat)) (show w2.heap.size ≠ w6.heap.size from Nat.ne_of_lt HRD.out)), (fun e => (one_other (one_other (one_other (one_other (rM0 e) ⟨w2.heap.size, 0, none⟩ (.int .i64 0) (blocks_ne (rM0 e) (rD0 rfl) (by decide))) ⟨w2.heap.size, 1, none⟩ (.int .i64 4) (blocks_ne (rM0 e) (rD0 rfl) (by decide))) ⟨w2.heap.size, 2, none⟩ (.int .u16 (A1 : Nat)) (blocks_ne (rM0 e) (rD0 rfl) (by decide))) ⟨w2.heap.size, 3, none⟩ (.int .u16 (A1 : Nat)) (blocks_ne (rM0 e) (rD0 rfl) (by decide)))), (fun e => (one_other (one_other (one_other (one_other (rM1 e) ⟨w2.heap.size, 0, none⟩ (.int .i64 0) (blocks_ne (rM1 e) (rD0 rfl) (by decide))) ⟨w2.heap.size, 1, none⟩ (.int .i64 4) (blocks_ne (rM1 e) (rD0 rfl) (by decide))) ⟨w2.heap.size, 2, none⟩ (.int .u16 (A1 : Nat)) (blocks_ne (rM1 e) (rD0 rfl) (by decide))) ⟨w2.heap.size, 3, none⟩ (.int .u16 (A1 : Nat)) (blocks_ne (rM1 e) (rD0 rfl) (by decide)))), (fun e => (one_other (one_other (one_other (one_other (rQ0 e) ⟨w2.heap.size, 0, none⟩ (.int .i64 0) (blocks_ne (rQ0 e) (rD0 rfl) (by decide))) ⟨w2.heap.size, 1, none⟩ (.int .i64 4) (blocks_ne (rQ0 e) (rD0 rfl) (by decide))) ⟨w2.heap.size, 2, none⟩ (.int .u16 (A1 : Nat)) (blocks_ne (rQ0 e) (rD0 rfl) (by decide))) ⟨w2.heap.size, 3, none⟩ (.int .u16 (A1 : Nat)) (blocks_ne (rQ0 e) (rD0 rfl) (by decide)))), (fun e => (one_other (one_other (one_other (one_other (rQ1 e) ⟨w2.heap.size, 0, none⟩ (.int .i64 0) (blocks_ne (rQ1 e) (rD0 rfl) (by decide))) ⟨w2.heap.size, 1, none⟩ (.int .i64 4) (blocks_ne (rQ1 e) (rD0 rfl) (by decide))) ⟨w2.heap.size, 2, none⟩ (.int .u16 (A1 : Nat)) (blocks_ne (rQ1 e) (rD0 rfl) (by decide))) ⟨w2.heap.size, 3, none⟩ (.int .u16 (A1 : Nat)) (blocks_ne (rQ1 e) (rD0 rfl) (by decide)))), (fun e => by cases e), (fun _ => (row_put (row_put (row_put (row_put (rD0 rfl) 0 (.int .i64 0)) 1 (.int .i64 4)) 2 (.int .u16 (A1 : Nat))) 3 (.int .u16 (A1 : Nat)))), ((((gB.setCell (p := ⟨w2.heap.size, 0, none⟩) HS2.out (.int .i64 0)).setCell (p := ⟨w2.heap.size, 1, none⟩) HS2.out (.int .i64 4)).setCell (p := ⟨w2.heap.size, 2, none⟩) HS2.out (.int .u16 (A1 : Nat))).setCell (p := ⟨w2.heap.size, 3, none⟩) HS2.out (.int .u16 (A1 : Nat))), ((((gO.stay (rD0 rfl) (by decide) 0 (.int .i64 0)).stay (row_put (rD0 rfl) 0 (.int .i64 0)) (by decide) 1 (.int .i64 4)).stay (row_put (row_put (rD0 rfl) 0 (.int .i64 0)) 1 (.int .i64 4)) (by decide) 2 (.int .u16 (A1 : Nat))).stay (row_put (row_put (row_put (rD0 rfl) 0 (.int .i64 0)) 1 (.int .i64 4)) 2 (.int .u16 (A1 : Nat))) (by decide) 3 (.int .u16 (A1 : Nat))), ((((gI.stay (rD0 rfl) (by decide) (by decide) 0 (.int .i64 0)).stay (row_put (rD0 rfl) 0 (.int .i64 0)) (by decide) (by decide) 1 (.int .i64 4)).stay (row_put (row_put (rD0 rfl) 0 (.int .i64 0)) 1 (.int .i64 4)) (by decide) (by decide) 2 (.int .u16 (A1 : Nat))).stay (row_put (row_put (row_put (rD0 rfl) 0 (.int .i64 0)) 1 (.int .i64 4)) 2 (.int .u16 (A1 : Nat))) (by decide) (by decide) 3 (.int .u16 (A1 : Nat)))⟩
      case hdone =>
        rintro ⟨b0, b1, b2, b3, b4, b5, s173, s174, s175⟩ W hI hall
        dsimp only at hI hall ⊢
        have HI := Lib.hid hI
        clear hI
        obtain rfl : b0 = true := hall 0 (by decide)
        obtain rfl : b1 = true := hall 1 (by decide)
        obtain rfl : b2 = true := hall 2 (by decide)
        obtain rfl : b3 = true := hall 3 (by decide)
        obtain rfl : b4 = true := hall 4 (by decide)
        obtain rfl : b5 = true := hall 5 (by decide)
        have rM1 := HI.out.2.2.2.2.2.2.2.2.2.1
        have rQ1 := HI.out.2.2.2.2.2.2.2.2.2.2.2.1
        have rD1 := HI.out.2.2.2.2.2.2.2.2.2.2.2.2.2.1
        have gB := HI.out.2.2.2.2.2.2.2.2.2.2.2.2.2.2.1
        have gO := HI.out.2.2.2.2.2.2.2.2.2.2.2.2.2.2.2.1
        have gI := HI.out.2.2.2.2.2.2.2.2.2.2.2.2.2.2.2.2
        clear HI hall
        have X1 := Lib.hid (rM1 rfl)
        have X2 := Lib.hid (rQ1 rfl)
        have X3 := Lib.hid (rD1 rfl)
        have X4 := Lib.hid gB
        have X5 := Lib.hid gO
        have X6 := Lib.hid gI
        clear rM1 rQ1 rD1 gB gO gI
        go_wp2
        go_roundw
        case rel => exact ⟨j + 1, A1, _, _, _, _, _, _, _, G2, by omega, by go_num, by have h1 := HA1.out; have h2 := HJ.out; omega, HT.out.n2, X1.out, X2.out, X3.out, X5.out, X6.out, X4.out⟩
        case measure => simp [intOf]; omega
    · obtain rfl : j = vn := by omega
      have hw1 : IntKind.u16.wrap ((j : Nat) : Int) = (j : Nat) := by simp [IntKind.wrap, IntKind.bits, IntKind.signed]; omega
      have hw2 : IntKind.u16.wrap (((k : Nat) : Int) + ((j : Nat) : Int)) = (A : Nat) := by have h := HJ.out; simp [IntKind.wrap, IntKind.bits, IntKind.signed]; omega
      obtain ⟨lRq0c44, zRq0c44⟩ := at_cell Rq.out 0 _ rfl
      clear zRq0c44
      obtain ⟨lRq1c45, zRq1c45⟩ := at_cell Rq.out 1 _ rfl
      clear zRq1c45
      obtain ⟨lRq2c46, zRq2c46⟩ := at_cell Rq.out 2 _ rfl
      clear zRq2c46
      obtain ⟨lRq3c47, zRq3c47⟩ := at_cell Rq.out 3 _ rfl
      clear zRq3c47
      obtain ⟨lRq4c48, zRq4c48⟩ := at_cell Rq.out 4 _ rfl
      clear zRq4c48
      obtain ⟨lRq5c49, zRq5c49⟩ := at_cell Rq.out 5 _ rfl
      clear zRq5c49
      go_wp2_with fail
      refine (check_this (tq A) 4 _ _ _ _ Qm.out (tq_good HA.out) 0 4 (A : Nat) (A : Nat) rfl rfl rfl rfl).mono ?_
      rintro e w9 ⟨rfl, hb⟩
      clear lRq0c44 lRq1c45 lRq2c46 lRq3c47 lRq4c48 lRq5c49
      replace Rm := Lib.hid (row_keep Rm.out hb)
      replace Rq := Lib.hid (row_keep Rq.out hb)
      replace Qm := Lib.hid (Qm.out.below hb)
      replace BW := Lib.hid (BW.out.trans (hb.mono BW.out.size))
      clear hb
      go_wp2_with fail
      refine (heads_any _).mono ?_
      rintro e w10 ⟨rfl, hb⟩
      replace Rm := Lib.hid (row_keep Rm.out hb)
      replace Rq := Lib.hid (row_keep Rq.out hb)
      replace Qm := Lib.hid (Qm.out.below hb)
      replace BW := Lib.hid (BW.out.trans (hb.mono BW.out.size))
      clear hb
      go_wp2
      go_ret
      exact ⟨rfl, BW.out⟩

set_option maxHeartbeats 1000000 in
set_option maxRecDepth 100000 in
theorem queueTurns_out (w : World) (k : Nat) (v : Value) (l : List Int) (hv : IsInts w v l) (z : Int) (hc : 40 < l.length ∨ (l.length ≤ 40 ∧ z < 0)) :
    Calls Tryz.prog 5 #[.int .u16 (k : Nat), v, .int .i64 z] w fun e w' => e = .returned (.bool true) ∧ Below w.heap.size w w' := by
  obtain ⟨va, vn, vc, rfl, hvn⟩ : ∃ a n c, v = .slice a n c ∧ n = l.length := by obtain ⟨a, c, h, _⟩ := hv.1.shape; exact ⟨a, _, c, h, rfl⟩
  rw [← hvn] at hc
  clear hvn hv
  rcases hc with h | ⟨h, hz⟩
  · have h1 : decide ((40 : Int) < ((vn : Nat) : Int)) = true := decide_eq_true (by omega)
    have h2 : decide (40 < vn) = true := decide_eq_true h
    go_enter Tryz.func5, Tryz.ntmps5
    go_wp2_with fail
    refine (heads_any _).mono ?_
    rintro e w1 ⟨rfl, hb⟩
    go_wp2
    go_ret
    exact ⟨rfl, hb⟩
  · have h1 : decide ((40 : Int) < ((vn : Nat) : Int)) = false := decide_eq_false (by omega)
    have h2 : decide (40 < vn) = false := decide_eq_false (by omega)
    have h3 : decide (z < 0) = true := decide_eq_true hz
    go_enter Tryz.func5, Tryz.ntmps5
    go_wp2_with fail
    refine (heads_any _).mono ?_
    rintro e w1 ⟨rfl, hb⟩
    go_wp2
    go_ret
    exact ⟨rfl, hb⟩
theorem queueTurns_law (w : World) (k : Nat) (hk : k < 65536) (v : Value) (l : List Int) (hv : IsInts w v l) (z : Int) (_ : -9223372036854775808 ≤ z ∧ z ≤ 9223372036854775807) :
    Calls Tryz.prog 5 #[.int .u16 (k : Nat), v, .int .i64 z] w fun e w' => e = .returned (.bool true) ∧ Below w.heap.size w w' := by
  by_cases h1 : 40 < l.length
  · exact queueTurns_out w k v l hv z (.inl h1)
  by_cases h2 : z < 0
  · exact queueTurns_out w k v l hv z (.inr ⟨by omega, h2⟩)
  · exact queueTurns_main w k hk v l hv z ⟨by omega, by omega⟩
end Go.Proofs.YtnmekbbnglkmcaaGreat
/- Arguments opened: an array of integers; a slice of bytes; a slice of slices of bytes. -/
namespace Go.Proofs.YtnmekbbnglkmcaaGreat
open Go.RowKit Go.Lib Go.ChangeShapes Go.WideShapes

def intOfCell : Value → Int
  | .int _ z => z
  | _ => 0
/-- A slice of slices of bytes: what its rows read as. -/
def IsRows (w : World) (v : Value) (n : Nat) (V : Nat → Value) (Z : Nat → List UInt8) : Prop :=
  ∃ a c, v = .slice a n c ∧ n ≤ c ∧ c ≤ maxLen ∧ (0 < n → ∃ ad, a = some ad ∧ ∀ i, i < n → w.cell? (ad.add i) = some (V i)) ∧ ∀ i, i < n → IsArg w (V i) (Z i)
theorem IsRows.below {w w' : World} {v : Value} {n : Nat} {V : Nat → Value} {Z : Nat → List UInt8} (h : IsRows w v n V Z) (hb : Below w.heap.size w w') : IsRows w' v n V Z := by
  obtain ⟨a, c, h1, h2, h3, h4, h5⟩ := h
  refine ⟨a, c, h1, h2, h3, fun h0 => ?_, fun i hi => (h5 i hi).below hb⟩
  obtain ⟨ad, e1, e3⟩ := h4 h0
  exact ⟨ad, e1, fun i hi => (hb.cell (World.block_lt_of_cell? w _ (e3 i hi))).trans (e3 i hi)⟩
end Go.Proofs.YtnmekbbnglkmcaaGreat
/- Arguments opened: a disk; flags; numbers. -/
namespace Go.Proofs.YtnmekbbnglkmcaaGreat
open Go.RowKit Go.Lib Go.ChangeShapes Go.WideShapes

section
variable {H : Type} {enc : TypeId × Value → H} {P : Program} {w : World} {base : Nat} {held : Bool}
end
theorem open_numbers {H : Type} {enc : TypeId × Value → H} {P : Program} {w : World} {base : Nat} {held : Bool} {r : Reach} {b0 : Nat} {t e : TypeId} {v : Value} {d : DataW H} {ps : List MemPlace}
    (ht : P.underlying t = some (.slice e)) (he : P.underlying e = some (.int .i64)) (hc : P.cellsOf e = 1) (hval : Value.okWide P w r b0 t v) (hd : DataW.Trod enc P w base (fun _ => true) held t v d ps) : ∃ l, IsInts w v l := by
  obtain ⟨a, n, c, rfl⟩ := okWide_slice ht hval
  obtain ⟨fuel, hf⟩ := hd
  rcases open_ints ht he hc hf with ⟨hcs, _⟩ | ⟨ad, len, cap, zs, hcs, _, hl, hm, hz, _, hcell, hwz⟩
  · have h : Value.slice a n c = .slice none 0 0 := by simpa [Value.cells] using hcs
    rw [h]
    exact ⟨[], .inl ⟨rfl, rfl, rfl⟩, fun z hz => by simp at hz⟩
  · have h : Value.slice a n c = .slice (some ad) len cap := by simpa [Value.cells] using hcs
    rw [h]
    have hz : zs.length = cap := by simpa using hz
    have hlt : (zs.take len).length = len := by simp; omega
    refine ⟨zs.take len, .inr ⟨ad, cap, by rw [hlt], by rw [hlt]; exact hl, hm, fun j u hu => ?_⟩, fun z hz' => ?_⟩
    · have hj : j < len := by
        have h9 := (List.getElem?_eq_some_iff.1 hu).1
        rw [List.length_map, hlt] at h9
        exact h9
      rw [hcell j (by omega), ← hu]
      simp [hj, show j < zs.length by omega]
    · exact bounds_i64 (hwz z (List.mem_of_mem_take hz'))
end Go.Proofs.YtnmekbbnglkmcaaGreat
