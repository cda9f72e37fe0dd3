/- What is read of a ring: Desc, Avail, AvailAt, Used, UsedAt. -/
import Derived.Test.YtofeiheomnpggaaRngE
import Derived.Deep.RegionHeld3
namespace Go.Proofs.Ytofeiheomnpggaa
open Go.RowKit Go.Lib

theorem tneDI : (44 : Nat) ≠ 3 := by decide
theorem tneDM : (44 : Nat) ≠ 28 := by decide
theorem tneUI : (25 : Nat) ≠ 3 := by decide
theorem tneUM : (25 : Nat) ≠ 28 := by decide
theorem at_cell {X : World} {g : Nat} {cs : Array Value} {t : TypeId} (h : X.heap[g]? = some (.cells cs t (0, 0))) (i : Nat) (u : Value) (hu : cs[i]? = some u) : X.cell? ⟨g, i, none⟩ = some u ∧ X.frozen? ⟨g, i, none⟩ = false := by
  refine ⟨?_, ?_⟩
  · unfold World.cell?; rw [h]; exact hu
  · unfold World.frozen?; rw [h]; simp
theorem set_at {X : World} {g : Nat} {cs : Array Value} {t : TypeId} (h : X.heap[g]? = some (.cells cs t (0, 0))) (i : Nat) (u : Value) : (X.setCell ⟨g, i, none⟩ u).heap[g]? = some (.cells (cs.setIfInBounds i u) t (0, 0)) := by
  simp [World.setCell, Array.getElem?_modify, h]
/-- Numbers are got, one behind the other, into a box. -/
structure GSt (w : World) (ga gb gd gr : Nat) (v : Value) (p : Nat) (cs rs : Array Value) (t : TypeId) (W : World) : Prop where
  out : Below w.heap.size w W
  lo : w.heap.size ≤ gb ∧ w.heap.size ≤ gd
  ne : gr ≠ gd
  ti : (t : Nat) ≠ 3
  tm : (t : Nat) ≠ 28
  get : GetAt W ga gb v p
  box : W.heap[gd]? = some (.cells cs t (0, 0))
  res : W.heap[gr]? = some (.cells rs t (0, 0))
theorem GSt.call {w W W1 : World} {ga gb gd gr p q : Nat} {v : Value} {cs rs : Array Value} {t : TypeId} (h : GSt w ga gb gd gr v p cs rs t W) (hg : GetAt W1 ga gb v q) (hs : Save1 W W1 gb) : GSt w ga gb gd gr v q cs rs t W1 where
  out := hs.below h.out h.lo.1 h.out.size
  lo := h.lo
  ne := h.ne
  ti := h.ti
  tm := h.tm
  get := hg
  box := hs.row h.box (blocks_ne h.get.2 h.box h.ti)
  res := hs.row h.res (blocks_ne h.get.2 h.res h.ti)
theorem GSt.store {w W : World} {ga gb gd gr p : Nat} {v : Value} {cs rs : Array Value} {t : TypeId} (h : GSt w ga gb gd gr v p cs rs t W) (i : Nat) (u : Value) : GSt w ga gb gd gr v p (cs.setIfInBounds i u) rs t (W.setCell ⟨gd, i, none⟩ u) where
  out := h.out.setCell h.lo.2 u
  lo := h.lo
  ne := h.ne
  ti := h.ti
  tm := h.tm
  get := ⟨one_other h.get.1 _ _ (blocks_ne h.get.1 h.box h.tm), one_other h.get.2 _ _ (blocks_ne h.get.2 h.box h.ti)⟩
  box := set_at h.box i u
  res := one_other h.res _ _ (fun e => h.ne e.symm)

set_option maxHeartbeats 4000000 in
set_option maxRecDepth 100000 in
theorem desc_in (v : Value) (l : List UInt8) (w : World) (hv : IsArg w v l) (B N i p : Nat) (hok : RingOk l.length B N) (hi : i < N) (hp : B + 16 * i = p) (x0 x1 x2 x3 : Nat) (h0 : numAt l p 8 = x0) (h1 : numAt l (p + 8) 4 = x1) (h2 : numAt l (p + 12) 2 = x2) (h3 : numAt l (p + 14) 2 = x3) :
    Calls Try.prog 14 #[.agg #[v], .int .i64 (B : Nat), .int .i64 (N : Nat), .int .i64 (i : Nat)] w fun e w' => e = .returned (.tuple #[.agg #[.int .u64 (x0 : Nat), .int .u32 (x1 : Nat), .int .u16 (x2 : Nat), .int .u16 (x3 : Nat)], .int .i64 0]) ∧ Below w.heap.size w w' := by
  have hf : descF l.length (B : Int) (N : Int) (i : Int) = 0 := by rw [descF, if_pos hok.ok, if_pos (by omega)]
  have hN := hok.right.le
  have hsz := sizeN_le N
  have hfit := hok.fits
  have hL := hok.few
  have HL := Lib.hid hL
  have hpl : p + 16 ≤ l.length := by omega
  have HPL := Lib.hid hpl
  have HFD := Lib.hid hf
  have HV := Lib.hid hv
  have HB0 := Lib.hid (((Below.refl w.heap.size w).alloc (Nat.le_refl _) (.cells #[v] 28)).alloc (by simp) (.cells #[.int .u64 0, .int .u32 0, .int .u16 0, .int .u16 0] 44))
  have HMX := Lib.hid (show l.length ≤ maxLen by unfold maxLen; omega)
  have HQ := Lib.hid (show ((i : Nat) : Int) * 16 = ((16 * i : Nat) : Int) by omega)
  have HT := Lib.hid (show ((B : Nat) : Int) + ((16 * i : Nat) : Int) = (p : Nat) by omega)
  have HQ1 := Lib.hid (show -9223372036854775808 ≤ ((16 * i : Nat) : Int) ∧ ((16 * i : Nat) : Int) ≤ 9223372036854775807 by omega)
  have HT1 := Lib.hid (show -9223372036854775808 ≤ ((p : Nat) : Int) ∧ ((p : Nat) : Int) ≤ 9223372036854775807 by omega)
  have hx0 : x0 < 18446744073709551616 := by rw [← h0]; exact numAt_lt l p 8
  have hx1 : x1 < 4294967296 := by rw [← h1]; exact numAt_lt l (p + 8) 4
  have hx2 : x2 < 65536 := by rw [← h2]; exact numAt_lt l (p + 12) 2
  have hx3 : x3 < 65536 := by rw [← h3]; exact numAt_lt l (p + 14) 2
  have H0 := Lib.hid h0
  have H1 := Lib.hid h1
  have H2 := Lib.hid h2
  have H3 := Lib.hid h3
  obtain ⟨va, vc, rfl, _⟩ := hv.shape
  clear hf hok hN hsz hfit hL hpl hv h0 h1 h2 h3 hp hi
  go_enter Try.func14, Try.ntmps14
  go_wp2_with fail
  refine (descFault_any _ _ _ HMX.out _ _ _ _ HFD.out _).mono ?_
  rintro e w1 ⟨rfl, hb⟩
  have hr0 := row_keep (row_keep (heap_alloc_new w (.cells #[.slice va l.length vc] 28)) ((Below.refl _ _).alloc (Nat.le_refl _) (.cells #[.int .u64 0, .int .u32 0, .int .u16 0, .int .u16 0] 44))) hb
  have hr1 := row_keep (heap_alloc_new (w.alloc (.cells #[.slice va l.length vc] 28)) (.cells #[.int .u64 0, .int .u32 0, .int .u16 0, .int .u16 0] 44)) hb
  have HB1 := Lib.hid (HB0.out.trans (hb.mono (by simp; omega)))
  have HR0 := Lib.hid hr0
  have HR1 := Lib.hid (show w1.heap[w.heap.size + 1]? = some (.cells #[.int .u64 0, .int .u32 0, .int .u16 0, .int .u16 0] 44) by simpa using hr1)
  obtain ⟨c1, f1⟩ := one_cell hr0
  clear hb hr0 hr1 f1
  go_wp2_with fail
  go_region_held3 (fun W => W.cell? ⟨w.heap.size, 0, none⟩ = some (.slice va l.length vc)) (first | (with_reducible assumption) | go_keep) (first
    | (go_at_call 41; refine (descs_any _ _).mono ?_; rintro e w2 ⟨a, b, rfl, hr2, hb2⟩; have c2 := kept (w := w1.drew) c1 hb2; have HR2 := Lib.hid hr2; clear hr2)
    | (go_at_call 64; refine (row1_any a b _ 16 _ _ _ HQ.out HT.out HQ1.out HT1.out _ HR2.out).mono ?_; rintro e w3 ⟨rfl, rfl⟩)
    | (go_at_call 37; refine (getter_any _ l _ _ ((HV.out.below (HB1.out.drew)).below hb2)).mono ?_; rintro e w4 ⟨ga, gb, rfl, hg, ha0, hb0, hb4⟩; have c4 := kept c2 hb4; have HG4 := Lib.hid hg; clear hg))
  have hbw : Below w.heap.size w w4 := (HB1.out.drew.trans (hb2.mono HB1.out.drew.size)).trans (hb4.mono (HB1.out.drew.trans (hb2.mono HB1.out.drew.size)).size)
  have hr4 := row_keep (row_keep (w := w1.drew) HR1.out hb2) hb4
  have hz : w.heap.size + 1 < w4.heap.size := (Array.getElem?_eq_some_iff.1 hr4).1
  have hgb : w.heap.size ≤ gb := Nat.le_trans (Nat.le_trans HB1.out.size (show w1.heap.size ≤ w3.heap.size from hb2.size)) hb0
  have HG := Lib.hid (show GSt w ga gb w4.heap.size (w.heap.size + 1) (.slice va l.length vc) p #[.int .u64 0, .int .u32 0, .int .u16 0, .int .u16 0] #[.int .u64 0, .int .u32 0, .int .u16 0, .int .u16 0] 44 (w4.alloc (.cells #[.int .u64 0, .int .u32 0, .int .u16 0, .int .u16 0] 44)) from
    { out := hbw.alloc hbw.size _, lo := ⟨hgb, hbw.size⟩, ne := by omega, ti := tneDI, tm := tneDM, get := HG4.out.below ((Below.refl _ _).alloc (Nat.le_refl _) _), box := heap_alloc_new w4 _, res := row_keep hr4 ((Below.refl _ _).alloc (Nat.le_refl _) _) })
  have HGB := Lib.hid hgb
  have w32 : IntKind.u32.wrap ((x1 : Nat) : Int) = (x1 : Nat) := IntWalk.u32_in _ (by omega)
  have w16 : IntKind.u16.wrap ((x2 : Nat) : Int) = (x2 : Nat) := IntWalk.u16_in _ (by omega)
  have w17 : IntKind.u16.wrap ((x3 : Nat) : Int) = (x3 : Nat) := IntWalk.u16_in _ (by omega)
  have hne1 : w4.heap.size ≠ w.heap.size + 1 := by omega
  have hne2 : w.heap.size + 1 ≠ w4.heap.size := by omega
  clear hbw hr4 hz hgb hb2 hb4 c1 c2 c4 ha0 hb0
  go_wp2_with fail
  refine (get_num ga gb _ l p 8 (p + 8) (by omega) HL.out (by have := HPL.out; omega) (by decide) (by decide) _ (HV.out.below HG.out.out) HG.out.get).mono ?_
  rintro e w5 ⟨rfl, hg, hs⟩
  rw [H0.out]
  replace HG := Lib.hid (HG.out.call hg hs)
  obtain ⟨d0, f0⟩ := at_cell HG.out.box 0 _ rfl
  clear hg hs
  replace HG := Lib.hid (HG.out.store 0 (.int .u64 (x0 : Nat)))
  go_wp2_with fail
  refine (get_num ga gb _ l (p + 8) 4 (p + 12) (by omega) HL.out (by have := HPL.out; omega) (by decide) (by decide) _ (HV.out.below HG.out.out) HG.out.get).mono ?_
  rintro e w6 ⟨rfl, hg, hs⟩
  rw [H1.out]
  replace HG := Lib.hid (HG.out.call hg hs)
  obtain ⟨d1, f1⟩ := at_cell HG.out.box 1 _ rfl
  clear hg hs
  replace HG := Lib.hid (HG.out.store 1 (.int .u32 (x1 : Nat)))
  go_wp2_with fail
  refine (get_num ga gb _ l (p + 12) 2 (p + 14) (by omega) HL.out (by have := HPL.out; omega) (by decide) (by decide) _ (HV.out.below HG.out.out) HG.out.get).mono ?_
  rintro e w7 ⟨rfl, hg, hs⟩
  rw [H2.out]
  replace HG := Lib.hid (HG.out.call hg hs)
  obtain ⟨d2, f2⟩ := at_cell HG.out.box 2 _ rfl
  clear hg hs
  replace HG := Lib.hid (HG.out.store 2 (.int .u16 (x2 : Nat)))
  go_wp2_with fail
  refine (get_num ga gb _ l (p + 14) 2 (p + 16) (by omega) HL.out (by have := HPL.out; omega) (by decide) (by decide) _ (HV.out.below HG.out.out) HG.out.get).mono ?_
  rintro e w8 ⟨rfl, hg, hs⟩
  rw [H3.out]
  replace HG := Lib.hid (HG.out.call hg hs)
  obtain ⟨d3, f3⟩ := at_cell HG.out.box 3 _ rfl
  clear hg hs
  clear d0 f0 d1 f1 d2 f2
  obtain ⟨e0, _⟩ := at_cell HG.out.box 0 _ rfl
  obtain ⟨e1, _⟩ := at_cell HG.out.box 1 _ rfl
  obtain ⟨e2, _⟩ := at_cell HG.out.box 2 _ rfl
  obtain ⟨r0, g0⟩ := at_cell HG.out.res 0 _ rfl
  obtain ⟨r1, g1⟩ := at_cell HG.out.res 1 _ rfl
  obtain ⟨r2, g2⟩ := at_cell HG.out.res 2 _ rfl
  obtain ⟨r3, g3⟩ := at_cell HG.out.res 3 _ rfl
  go_wp2
  refine bodyPost_ret (v := .tuple #[.agg #[.int .u64 (x0 : Nat), .int .u32 (x1 : Nat), .int .u16 (x2 : Nat), .int .u16 (x3 : Nat)], .int .i64 0]) (by simp [results, Try.results14, go_sem, r0, r1, r2, r3]) rfl ⟨rfl, ?_⟩
  exact ((((HG.out.out.setCell HG.out.lo.2 _).setCell (by simp) _).setCell (by simp) _).setCell (by simp) _).setCell (by simp) _

set_option maxHeartbeats 1000000 in
set_option maxRecDepth 100000 in
theorem desc_out (a : Option Addr) (n c : Nat) (hn : n ≤ maxLen) (b z i : Int) (F : Int) (hF : descF n b z i = F) (h0 : F ≠ 0) (w : World) :
    Calls Try.prog 14 #[.agg #[.slice a n c], .int .i64 b, .int .i64 z, .int .i64 i] w fun e w' => e = .returned (.tuple #[.agg #[.int .u64 0, .int .u32 0, .int .u16 0, .int .u16 0], .int .i64 F]) ∧ Below w.heap.size w w' := by
  have HB0 := Lib.hid (((Below.refl w.heap.size w).alloc (Nat.le_refl _) (.cells #[.slice a n c] 28)).alloc (by simp) (.cells #[.int .u64 0, .int .u32 0, .int .u16 0, .int .u16 0] 44))
  have HN := Lib.hid hn
  have HF := Lib.hid hF
  clear hn hF
  go_enter Try.func14, Try.ntmps14
  go_wp2_with fail
  refine (descFault_any _ _ _ HN.out _ _ _ _ HF.out _).mono ?_
  rintro e w1 ⟨rfl, hb⟩
  have hr1 := row_keep (heap_alloc_new (w.alloc (.cells #[.slice a n c] 28)) (.cells #[.int .u64 0, .int .u32 0, .int .u16 0, .int .u16 0] 44)) hb
  have HR1 := Lib.hid (show w1.heap[w.heap.size + 1]? = some (.cells #[.int .u64 0, .int .u32 0, .int .u16 0, .int .u16 0] 44) by simpa using hr1)
  have HB1 := Lib.hid (HB0.out.trans (hb.mono (by simp; omega)))
  obtain ⟨r0, g0⟩ := at_cell HR1.out 0 _ rfl
  obtain ⟨r1, g1⟩ := at_cell HR1.out 1 _ rfl
  obtain ⟨r2, g2⟩ := at_cell HR1.out 2 _ rfl
  obtain ⟨r3, g3⟩ := at_cell HR1.out 3 _ rfl
  clear hb hr1
  go_wp2
  refine bodyPost_ret (v := .tuple #[.agg #[.int .u64 0, .int .u32 0, .int .u16 0, .int .u16 0], .int .i64 F]) (by simp [results, Try.results14, go_sem, r0, r1, r2, r3]) rfl ⟨rfl, ?_⟩
  exact (((HB1.out.setCell (by simp) _).setCell (by simp) _).setCell (by simp) _).setCell (by simp) _
theorem desc_any (v : Value) (l : List UInt8) (b z i : Int) (F : Int) (x0 x1 x2 x3 : Nat) (hF : descF l.length b z i = F) (h0 : descX l b z i 0 8 = x0) (h1 : descX l b z i 8 4 = x1) (h2 : descX l b z i 12 2 = x2) (h3 : descX l b z i 14 2 = x3) (hl : l.length ≤ maxLen) (w : World) (hv : IsArg w v l) :
    Calls Try.prog 14 #[.agg #[v], .int .i64 b, .int .i64 z, .int .i64 i] w fun e w' => e = .returned (.tuple #[.agg #[.int .u64 (x0 : Nat), .int .u32 (x1 : Nat), .int .u16 (x2 : Nat), .int .u16 (x3 : Nat)], .int .i64 F]) ∧ Below w.heap.size w w' := by
  by_cases hz : F = 0
  · subst hz
    rcases desc_cases l.length b z i with ⟨_, h⟩ | ⟨_, _, h⟩ | ⟨B, N, I, rfl, rfl, rfl, hI, hok, h⟩
    · omega
    · omega
    · rw [descX, if_pos h, Int.toNat_natCast, Int.toNat_natCast] at h0 h1 h2 h3
      exact desc_in v l w hv B N I (B + 16 * I) hok hI rfl x0 x1 x2 x3 h0 h1 h2 h3
  · have hx : ∀ o k, descX l b z i o k = 0 := fun o k => by rw [descX, if_neg (by rw [hF]; exact hz)]
    rw [hx] at h0 h1 h2 h3
    subst h0
    subst h1
    subst h2
    subst h3
    obtain ⟨a, c, rfl, _⟩ := hv.shape
    exact desc_out a l.length c hl b z i F hF hz w

set_option maxHeartbeats 4000000 in
set_option maxRecDepth 100000 in
theorem availAt_in (v : Value) (l : List UInt8) (w : World) (hv : IsArg w v l) (B N at_ p : Nat) (hok : RingOk l.length B N) (hi : at_ < 65536) (hp : B + 16 * N + 4 + 2 * (at_ % N) = p) (y : Nat) (hy : numAt l p 2 = y) :
    Calls Try.prog 10 #[.agg #[v], .int .i64 (B : Nat), .int .i64 (N : Nat), .int .u16 (at_ : Nat)] w fun e w' => e = .returned (.tuple #[.int .i64 (y : Nat), .int .i64 0]) ∧ Below w.heap.size w w' := by
  have hN := hok.right.le
  have hsz := sizeN_le N
  have hfit := hok.fits
  have hL := hok.few
  have HL := Lib.hid hL
  have HB8 := Lib.hid (show B ≤ 8192 by omega)
  have HN := Lib.hid hN
  have HMX := Lib.hid (show l.length ≤ maxLen by unfold maxLen; omega)
  have HF := Lib.hid (show ringF l.length (B : Int) (N : Int) = 0 by rw [ringF, if_pos hok.ok])
  have HV := Lib.hid hv
  obtain ⟨j, hj⟩ : ∃ j, at_ % N = j := ⟨_, rfl⟩
  have hjn : j < N := by rw [← hj]; exact Nat.mod_lt _ (by omega)
  rw [hj] at hp
  have HJ := Lib.hid hj
  have HI := Lib.hid hi
  have HQ := Lib.hid (show ((j : Nat) : Int) * 2 = ((2 * j : Nat) : Int) by omega)
  have HT := Lib.hid (show ((B + 16 * N + 4 : Nat) : Int) + ((2 * j : Nat) : Int) = (p : Nat) by omega)
  have HQ1 := Lib.hid (show -9223372036854775808 ≤ ((2 * j : Nat) : Int) ∧ ((2 * j : Nat) : Int) ≤ 9223372036854775807 by omega)
  have HT1 := Lib.hid (show -9223372036854775808 ≤ ((p : Nat) : Int) ∧ ((p : Nat) : Int) ≤ 9223372036854775807 by omega)
  have hpl : p + 2 ≤ l.length := by omega
  have HPL := Lib.hid hpl
  have HB0 := Lib.hid ((Below.refl w.heap.size w).alloc (Nat.le_refl _) (.cells #[v] 28))
  have HY := Lib.hid hy
  have hy2 : y < 65536 := by rw [← hy]; exact numAt_lt l p 2
  have hyw : IntKind.i64.wrap ((y : Nat) : Int) = (y : Nat) := IntWalk.i64_in _ (by omega)
  obtain ⟨va, vc, rfl, _⟩ := hv.shape
  clear hN hsz hfit hL hv hj hi hpl hok hy hp hjn
  go_enter Try.func10, Try.ntmps10
  go_wp2_with fail
  refine (ringFault_any _ _ _ HMX.out _ _ _ HF.out _).mono ?_
  rintro e w1 ⟨rfl, hb⟩
  have hr0 := row_keep (heap_alloc_new w (.cells #[.slice va l.length vc] 28)) hb
  have HB1 := Lib.hid (HB0.out.trans (hb.mono (by simp)))
  obtain ⟨c1, f1⟩ := one_cell hr0
  clear hb hr0 f1
  go_wp2_with fail
  go_region_held3 (fun W => W.cell? ⟨w.heap.size, 0, none⟩ = some (.slice va l.length vc)) (first | (with_reducible assumption) | go_keep) (first
    | (go_at_call 34; refine (availPart_any B N _ _ rfl rfl HB8.out HN.out.2 _).mono ?_; rintro e w2 ⟨a, b, rfl, hr2, hb2⟩; have c2 := kept (w := w1.drew) c1 hb2; have HR2 := Lib.hid hr2; clear hr2)
    | (go_at_call 38; refine (place_any _ _ 2 _ _ a b N at_ j HJ.out HN.out HI.out HQ.out HT.out HQ1.out HT1.out _ HR2.out).mono ?_; rintro e w3 ⟨rfl, hb3⟩; have c3 := kept c2 hb3)
    | (go_at_call 37; refine (getter_any _ l p _ (((HV.out.below (HB1.out.drew)).below hb2).below hb3)).mono ?_; rintro e w4 ⟨ga, gb, rfl, hg, ha0, hb0, hb4⟩; have c4 := kept c3 hb4; have HG4 := Lib.hid hg; clear hg))
  have hbw3 : Below w.heap.size w w3 := (HB1.out.drew.trans (hb2.mono HB1.out.drew.size)).trans (hb3.mono (HB1.out.drew.trans (hb2.mono HB1.out.drew.size)).size)
  have hbw : Below w.heap.size w w4 := hbw3.trans (hb4.mono hbw3.size)
  have HGB := Lib.hid (show w.heap.size ≤ gb from Nat.le_trans hbw3.size hb0)
  have HBW := Lib.hid hbw
  clear hbw hbw3 hb2 hb3 hb4 c1 c2 c3 c4 ha0 hb0
  go_wp2_with fail
  refine (get_num ga gb _ l p 2 (p + 2) rfl HL.out HPL.out (by decide) (by decide) _ (HV.out.below HBW.out) HG4.out).mono ?_
  rintro e w5 ⟨rfl, hg, hs⟩
  rw [HY.out]
  have HB5 := Lib.hid (hs.below HBW.out HGB.out HBW.out.size)
  clear hg hs
  go_wp2
  go_ret2
  exact ⟨rfl, HB5.out⟩

set_option maxHeartbeats 4000000 in
set_option maxRecDepth 100000 in
theorem usedAt_in (v : Value) (l : List UInt8) (w : World) (hv : IsArg w v l) (B N at_ p : Nat) (hok : RingOk l.length B N) (hi : at_ < 65536) (hp : B + secN N + 4 + 8 * (at_ % N) = p) (x0 x1 : Nat) (h0 : numAt l p 4 = x0) (h1 : numAt l (p + 4) 4 = x1) :
    Calls Try.prog 11 #[.agg #[v], .int .i64 (B : Nat), .int .i64 (N : Nat), .int .u16 (at_ : Nat)] w fun e w' => e = .returned (.tuple #[.agg #[.int .u32 (x0 : Nat), .int .u32 (x1 : Nat)], .int .i64 0]) ∧ Below w.heap.size w w' := by
  have hN := hok.right.le
  have hsz := sizeN_le N
  have hfit := hok.fits
  have hL := hok.few
  have HL := Lib.hid hL
  have HB8 := Lib.hid (show B ≤ 8192 by omega)
  have HN := Lib.hid hN
  have HMX := Lib.hid (show l.length ≤ maxLen by unfold maxLen; omega)
  have HF := Lib.hid (show ringF l.length (B : Int) (N : Int) = 0 by rw [ringF, if_pos hok.ok])
  have HV := Lib.hid hv
  obtain ⟨j, hj⟩ : ∃ j, at_ % N = j := ⟨_, rfl⟩
  have hjn : j < N := by rw [← hj]; exact Nat.mod_lt _ (by omega)
  rw [hj] at hp
  have HJ := Lib.hid hj
  have HI := Lib.hid hi
  have HQ := Lib.hid (show ((j : Nat) : Int) * 8 = ((8 * j : Nat) : Int) by omega)
  have HT := Lib.hid (show ((B + secN N + 4 : Nat) : Int) + ((8 * j : Nat) : Int) = (p : Nat) by omega)
  have HQ1 := Lib.hid (show -9223372036854775808 ≤ ((8 * j : Nat) : Int) ∧ ((8 * j : Nat) : Int) ≤ 9223372036854775807 by omega)
  have HT1 := Lib.hid (show -9223372036854775808 ≤ ((p : Nat) : Int) ∧ ((p : Nat) : Int) ≤ 9223372036854775807 by omega)
  have hpl : p + 8 ≤ l.length := by omega
  have HPL := Lib.hid hpl
  have HB0 := Lib.hid (((Below.refl w.heap.size w).alloc (Nat.le_refl _) (.cells #[v] 28)).alloc (by simp) (.cells #[.int .u32 0, .int .u32 0] 25))
  have H0 := Lib.hid h0
  have H1 := Lib.hid h1
  have hx0 : x0 < 4294967296 := by rw [← h0]; exact numAt_lt l p 4
  have hx1 : x1 < 4294967296 := by rw [← h1]; exact numAt_lt l (p + 4) 4
  have hyw0 : IntKind.u32.wrap ((x0 : Nat) : Int) = (x0 : Nat) := IntWalk.u32_in _ (by omega)
  have hyw1 : IntKind.u32.wrap ((x1 : Nat) : Int) = (x1 : Nat) := IntWalk.u32_in _ (by omega)
  obtain ⟨va, vc, rfl, _⟩ := hv.shape
  clear hN hsz hfit hL hv hj hi hpl hok h0 h1 hp hjn
  go_enter Try.func11, Try.ntmps11
  go_wp2_with fail
  refine (ringFault_any _ _ _ HMX.out _ _ _ HF.out _).mono ?_
  rintro e w1 ⟨rfl, hb⟩
  have hr0 := row_keep (row_keep (heap_alloc_new w (.cells #[.slice va l.length vc] 28)) ((Below.refl _ _).alloc (Nat.le_refl _) (.cells #[.int .u32 0, .int .u32 0] 25))) hb
  have hr1 := row_keep (heap_alloc_new (w.alloc (.cells #[.slice va l.length vc] 28)) (.cells #[.int .u32 0, .int .u32 0] 25)) hb
  have HB1 := Lib.hid (HB0.out.trans (hb.mono (by simp; omega)))
  have HR1 := Lib.hid (show w1.heap[w.heap.size + 1]? = some (.cells #[.int .u32 0, .int .u32 0] 25) by simpa using hr1)
  obtain ⟨c1, f1⟩ := one_cell hr0
  clear hb hr0 hr1 f1
  go_wp2_with fail
  go_region_held3 (fun W => W.cell? ⟨w.heap.size, 0, none⟩ = some (.slice va l.length vc)) (first | (with_reducible assumption) | go_keep) (first
    | (go_at_call 30; refine (usedPart_any B N _ _ rfl rfl HB8.out HN.out.2 _).mono ?_; rintro e w2 ⟨a, b, rfl, hr2, hb2⟩; have c2 := kept (w := w1.drew) c1 hb2; have HR2 := Lib.hid hr2; clear hr2)
    | (go_at_call 38; refine (place_any _ _ 8 _ _ a b N at_ j HJ.out HN.out HI.out HQ.out HT.out HQ1.out HT1.out _ HR2.out).mono ?_; rintro e w3 ⟨rfl, hb3⟩; have c3 := kept c2 hb3)
    | (go_at_call 37; refine (getter_any _ l p _ (((HV.out.below (HB1.out.drew)).below hb2).below hb3)).mono ?_; rintro e w4 ⟨ga, gb, rfl, hg, ha0, hb0, hb4⟩; have c4 := kept c3 hb4; have HG4 := Lib.hid hg; clear hg))
  have hbw3 : Below w.heap.size w w3 := (HB1.out.drew.trans (hb2.mono HB1.out.drew.size)).trans (hb3.mono (HB1.out.drew.trans (hb2.mono HB1.out.drew.size)).size)
  have hbw : Below w.heap.size w w4 := hbw3.trans (hb4.mono hbw3.size)
  have hr4 := row_keep (row_keep (row_keep (w := w1.drew) HR1.out hb2) hb3) hb4
  have hz : w.heap.size + 1 < w4.heap.size := (Array.getElem?_eq_some_iff.1 hr4).1
  have hgb : w.heap.size ≤ gb := Nat.le_trans hbw3.size hb0
  have HG := Lib.hid (show GSt w ga gb w4.heap.size (w.heap.size + 1) (.slice va l.length vc) p #[.int .u32 0, .int .u32 0] #[.int .u32 0, .int .u32 0] 25 (w4.alloc (.cells #[.int .u32 0, .int .u32 0] 25)) from
    { out := hbw.alloc hbw.size _, lo := ⟨hgb, hbw.size⟩, ne := by omega, ti := tneUI, tm := tneUM, get := HG4.out.below ((Below.refl _ _).alloc (Nat.le_refl _) _), box := heap_alloc_new w4 _, res := row_keep hr4 ((Below.refl _ _).alloc (Nat.le_refl _) _) })
  have hne1 : w4.heap.size ≠ w.heap.size + 1 := by omega
  have hne2 : w.heap.size + 1 ≠ w4.heap.size := by omega
  clear hbw hbw3 hr4 hz hgb hb2 hb3 hb4 c1 c2 c3 c4 ha0 hb0
  go_wp2_with fail
  refine (get_num ga gb _ l p 4 (p + 4) (by omega) HL.out (by have := HPL.out; omega) (by decide) (by decide) _ (HV.out.below HG.out.out) HG.out.get).mono ?_
  rintro e w5 ⟨rfl, hg, hs⟩
  rw [H0.out]
  replace HG := Lib.hid (HG.out.call hg hs)
  obtain ⟨d0, f0⟩ := at_cell HG.out.box 0 _ rfl
  clear hg hs
  replace HG := Lib.hid (HG.out.store 0 (.int .u32 (x0 : Nat)))
  go_wp2_with fail
  refine (get_num ga gb _ l (p + 4) 4 (p + 8) (by omega) HL.out (by have := HPL.out; omega) (by decide) (by decide) _ (HV.out.below HG.out.out) HG.out.get).mono ?_
  rintro e w6 ⟨rfl, hg, hs⟩
  rw [H1.out]
  replace HG := Lib.hid (HG.out.call hg hs)
  obtain ⟨d1, f1⟩ := at_cell HG.out.box 1 _ rfl
  clear hg hs
  clear d0 f0
  obtain ⟨e0, _⟩ := at_cell HG.out.box 0 _ rfl
  obtain ⟨r0, g0⟩ := at_cell HG.out.res 0 _ rfl
  obtain ⟨r1, g1⟩ := at_cell HG.out.res 1 _ rfl
  go_wp2
  refine bodyPost_ret (v := .tuple #[.agg #[.int .u32 (x0 : Nat), .int .u32 (x1 : Nat)], .int .i64 0]) (by simp [results, Try.results11, go_sem, r0, r1]) rfl ⟨rfl, ?_⟩
  exact ((HG.out.out.setCell HG.out.lo.2 _).setCell (by simp) _).setCell (by simp) _
end Go.Proofs.Ytofeiheomnpggaa
