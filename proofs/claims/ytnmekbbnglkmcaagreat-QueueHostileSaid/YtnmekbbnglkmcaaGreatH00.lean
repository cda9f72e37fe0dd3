import Derived.Deep.Cut
import Derived.OpenShut
import Derived.Deep.Matrix
import Derived.Deep.Slices
import Derived.Deep.Grids
import Derived.Test.YtnmekbbnglkmcaaGreatG04
namespace Go.Proofs.YtnmekbbnglkmcaaGreat
open Go.RowKit Go.Lib
set_option maxHeartbeats 1000000 in
theorem refPut_at (v : Value) (l : List UInt8) (p k y : Nat) (hy : y < 18446744073709551616) (hL : l.length ≤ 8192) (h : p + k ≤ l.length) (h1 : 1 ≤ k) (h8 : k ≤ 8) (w : World) (hv : IsArg w v l) :
 Calls Tryz.prog 35 #[.agg #[v], .int .i64 (p : Nat), .int .i64 (k : Nat), .int .u64 (y : Nat)] w fun e w' => ∃ ra rc, e = .returned (.agg #[.slice ra l.length rc]) ∧ Given w' w.heap.size v l (.slice ra l.length rc) (putAt l p k y) ∧ Below w.heap.size w w' := by
 obtain ⟨G, hG⟩ : ∃ G, G = putAt l p k y := ⟨_, rfl⟩
 have hGl : G.length = l.length := by rw [hG]; exact putAt_length y h
 rw [← hG]
 obtain ⟨va, vc, rfl, _⟩ := hv.shape
 obtain ⟨t1, t2, t3⟩ := two_new w (.slice va l.length vc) (.slice none 0 0) 26 26
 have HB0 := Lib.hid t3
 have HV := Lib.hid hv
 have HM := Lib.hid t1
 have HR := Lib.hid t2
 have HC := Lib.hid (refPutNum_at y hy hL h h1 h8 _ (hv.below HB0.out))
 rw [← hG] at HC
 have HG := Lib.hid hGl
 clear hL h h1 h8 hv hG hGl t1 t2 t3 hy
 go_enter Tryz.func35, Tryz.ntmps35
 go_wp2_with fail
 refine (HC.out).mono ?_
 rintro e w1 ⟨r, rfl, hg, hb⟩
 obtain ⟨ra, rc, rfl, _⟩ := (hg.arg (HV.out.below HB0.out) hb).shape
 rw [HG.out] at hg
 rw [HG.out]
 have HGV := Lib.hid (hg.base HB0.out.size)
 have hm := row_keep HM.out hb
 have hr := row_keep HR.out hb
 have HM1 := Lib.hid hm
 have HR1 := Lib.hid hr
 have HB1 := Lib.hid (HB0.out.trans (hb.mono HB0.out.size))
 obtain ⟨c0, g0⟩ := one_cell hm
 obtain ⟨r0, f0⟩ := one_cell hr
 have hlt := (Array.getElem?_eq_some_iff.1 hm).1
 clear hg hb hm hr
 go_wp2
 have hr2 := one_other HR1.out ⟨w.heap.size, 0, none⟩ (.slice ra l.length rc) (by simp)
 refine bodyPost_ret (v := .agg #[.slice ra l.length rc]) (by simp [results, Tryz.results35, go_sem, r0]) rfl ⟨ra, rc, rfl, ?_, ?_⟩
 · exact (HGV.out.far HM1.out tneMU _).far hr2 tneMU _
 · exact (HB1.out.setCell (by simp) _).setCell (by simp) _
theorem refPut_step {w0 W : World} {v : Value} {l G : List UInt8} {ra : Option Addr} {rc : Nat} (hv : IsArg w0 v l) (hb : Below w0.heap.size w0 W) (hg : Given W w0.heap.size v l (.slice ra l.length rc) G) (hl : G.length = l.length) (p k y : Nat) (hy : y < 18446744073709551616) (hL : l.length ≤ 8192) (h : p + k ≤ l.length) (h1 : 1 ≤ k) (h8 : k ≤ 8) :
 Calls Tryz.prog 35 #[.agg #[.slice ra l.length rc], .int .i64 (p : Nat), .int .i64 (k : Nat), .int .u64 (y : Nat)] W fun e w' => ∃ ra' rc', e = .returned (.agg #[.slice ra' l.length rc']) ∧ Given w' w0.heap.size v l (.slice ra' l.length rc') (putAt G p k y) ∧ (putAt G p k y).length = l.length ∧ Below W.heap.size W w' := by
 have hr : IsArg W (.slice ra l.length rc) G := hg.arg hv hb
 refine (refPut_at _ G p k y hy (by rw [hl]; exact hL) (by rw [hl]; exact h) h1 h8 W hr).mono ?_
 rintro e w' ⟨ra', rc', rfl, h2, h3⟩
 rw [hl] at h2 ⊢
 exact ⟨ra', rc', rfl, hg.step h2 hb.size (fun k => k.below h3), (putAt_length y (by rw [hl]; exact h)).trans hl, h3⟩
end Go.Proofs.YtnmekbbnglkmcaaGreat
namespace Go.Proofs.YtnmekbbnglkmcaaGreat
open Go.RowKit Go.Lib
set_option maxHeartbeats 1000000 in
set_option maxRecDepth 100000 in
theorem refReturn_out (v : Value) (l : List UInt8) (b z : Int) (k : Nat) (y0 y1 : Nat) (h0 : okR l.length b z = false) (hl : l.length ≤ 140737488355328) (w : World) (hv : IsArg w v l) :
 Calls Tryz.prog 13 #[.agg #[v], .int .i64 b, .int .i64 z, .int .u16 (k : Nat), .agg #[.int .u32 (y0 : Nat), .int .u32 (y1 : Nat)]] w (Wrote w v l l 70) := by
 have HV := Lib.hid hv
 have HMX := Lib.hid (show l.length ≤ maxLen by unfold maxLen; omega)
 have HC := Lib.hid h0
 obtain ⟨va, vc, rfl, _⟩ := hv.shape
 obtain ⟨t1, t2, t3, t4⟩ := three_new w (.slice va l.length vc) #[.int .u32 (y0 : Nat), .int .u32 (y1 : Nat)] (.slice none 0 0) 26 53 26
 have HB := Lib.hid t4
 have HM := Lib.hid t1
 have HD := Lib.hid t2
 have HR := Lib.hid t3
 clear t1 t2 t3 t4
 clear hv hl h0
 go_enter Tryz.func13, Tryz.ntmps13
 go_wp2_with fail
 refine (refRingCheck_any _ _ _ HMX.out _ _ false HC.out _).mono ?_
 rintro e w1 ⟨rfl, hb⟩
 replace HM := Lib.hid (row_keep HM.out hb)
 replace HR := Lib.hid (row_keep HR.out hb)
 replace HD := Lib.hid (row_keep HD.out hb)
 replace HB := Lib.hid (HB.out.trans (hb.mono HB.out.size))
 clear hb
 obtain ⟨r0, g0⟩ := at_cell HR.out 0 _ rfl
 obtain ⟨c0, _⟩ := one_cell HM.out
 go_wp2
 refine bodyPost_ret (v := .tuple #[.agg #[.slice va l.length vc], .int .i64 70]) (by simp [results, Tryz.results13, go_sem, r0]) rfl ⟨va, vc, rfl, .inl ⟨rfl, rfl⟩, (HB.out.setCell (by simp; omega) _)⟩
end Go.Proofs.YtnmekbbnglkmcaaGreat
namespace Go.Proofs.YtnmekbbnglkmcaaGreat
open Go.RowKit Go.Lib
structure RSt (w : World) (v : Value) (l : List UInt8) (ra : Option Addr) (rc : Nat) (G : List UInt8) (W : World) : Prop where
 out : Below w.heap.size w W
 mem : W.heap[w.heap.size]? = some (.cells #[.slice ra l.length rc] 26 (0, 0))
 giv : Given W w.heap.size v l (.slice ra l.length rc) G
 len : G.length = l.length
theorem RSt.next {w W W1 : World} {v : Value} {l G G' : List UInt8} {ra ra' : Option Addr} {rc rc' : Nat} (h : RSt w v l ra rc G W) (hb : Below W.heap.size W W1) (hg : Given W1 w.heap.size v l (.slice ra' l.length rc') G') (hl : G'.length = l.length) : RSt w v l ra' rc' G' (W1.setCell ⟨w.heap.size, 0, none⟩ (.slice ra' l.length rc')) where
 out := (h.out.trans (hb.mono h.out.size)).setCell (Nat.le_refl _) _
 mem := one_set (row_keep h.mem hb) _
 giv := hg.far (row_keep h.mem hb) tneMU _
 len := hl
structure RngRefOfferX where
 (b0 b1 b2 b3 b4 b5 b6 b7 b8 b9 b10 b11 b12 b13 b14 b15 : Bool)
 (s18 s19 s20 s21 s22 s23 s24 s25 s26 s27 s28 s29 s30 s31 s32 : Value)
structure RngRefOfferBX where
 (b0 b1 b2 b3 b4 b5 b6 b7 b8 b9 b10 b11 : Bool)
 (s33 s34 s35 s36 s37 s38 s39 s40 s41 s42 s11 : Value)
structure RngRefReturnBX where
 (b0 b1 b2 b3 b4 b5 b6 b7 b8 b9 b10 b11 : Bool)
 (s43 s44 s45 s46 s47 s48 s49 s50 s51 s52 s11 : Value)
set_option maxHeartbeats 4000000 in
set_option maxRecDepth 100000 in
theorem refReturn_in (v : Value) (l : List UInt8) (w : World) (hv : IsArg w v l) (B N : Nat) (hok : RingOk l.length B N) (k : Nat) (hk : k < 65536) (y0 y1 : Nat) (hy0 : y0 < 4294967296) (hy1 : y1 < 4294967296) (p : Nat) (hp : B + secN N + 4 + 8 * (k % N) = p) :
 Calls Tryz.prog 13 #[.agg #[v], .int .i64 (B : Nat), .int .i64 (N : Nat), .int .u16 (k : Nat), .agg #[.int .u32 (y0 : Nat), .int .u32 (y1 : Nat)]] w (Wrote w v l (returnD l B N k y0 y1) 0) := by
 have hN := hok.right.le
 have hsz := sizeN_le N
 have hfit := hok.fits
 have hL := hok.few
 have HL := Lib.hid hL
 have HNN := Lib.hid hN
 have HMX := Lib.hid (show l.length ≤ maxLen by unfold maxLen; omega)
 have HC := Lib.hid hok.ok
 have HV := Lib.hid hv
 obtain ⟨va, vc, rfl, _⟩ := hv.shape
 obtain ⟨t1, t2, t3, t4⟩ := three_new w (.slice va l.length vc) #[.int .u32 (y0 : Nat), .int .u32 (y1 : Nat)] (.slice none 0 0) 26 53 26
 have HB := Lib.hid t4
 have HM := Lib.hid t1
 have HD := Lib.hid t2
 have HR := Lib.hid t3
 clear t1 t2 t3 t4
 obtain ⟨f1, hf1⟩ : ∃ q, q = secN N := ⟨_, rfl⟩
 obtain ⟨c1, hc1⟩ : ∃ q, q = B + f1 := ⟨_, rfl⟩
 obtain ⟨c2, hc2⟩ : ∃ q, q = c1 + 4 := ⟨_, rfl⟩
 have e2 : (B : Int) + (f1 : Nat) = (c1 : Nat) := by omega
 have e3 : (c1 : Int) + 4 = (c2 : Nat) := by omega
 have q1 : f1 ≤ 1000 := by omega
 have q2 : c1 ≤ 9000 := by omega
 have hwrc1 : IntKind.i64.wrap ((c1 : Nat) : Int) = (c1 : Nat) := IntWalk.i64_in _ (by omega)
 have hwrc2 : IntKind.i64.wrap ((c2 : Nat) : Int) = (c2 : Nat) := IntWalk.i64_in _ (by omega)
 have HF := Lib.hid (show ∀ W, Calls Tryz.prog 34 #[.int .i64 (N : Nat)] W fun e w' => e = .returned (.int .i64 (f1 : Nat)) ∧ w' = W from fun W => refSecond_any N f1 hf1.symm hN.2 W)
 obtain ⟨j, hj⟩ : ∃ j, k % N = j := ⟨_, rfl⟩
 have hjn : j < N := by rw [← hj]; exact Nat.mod_lt _ (by omega)
 rw [hj] at hp
 obtain ⟨q, hq⟩ : ∃ q, q = 8 * j := ⟨_, rfl⟩
 have htm : ((k : Nat) : Int).tmod ((N : Nat) : Int) = (j : Nat) := by rw [Int.tmod_eq_emod_of_nonneg (by omega)]; omega
 have hz : ¬ (N = 0) := by omega
 have hwj : IntKind.i64.wrap ((j : Nat) : Int) = (j : Nat) := IntWalk.i64_in _ (by omega)
 have hwk : IntKind.i64.wrap ((k : Nat) : Int) = (k : Nat) := IntWalk.i64_in _ (by omega)
 have hem : (k : Int) % (N : Nat) = (j : Nat) := by omega
 have e6 : (8 : Int) * (j : Nat) = (q : Nat) := by omega
 have e7 : (c2 : Int) + (q : Nat) = (p : Nat) := by omega
 have q3 : j ≤ 16 := by omega
 have q4 : q ≤ 1000 := by omega
 have hwrq : IntKind.i64.wrap ((q : Nat) : Int) = (q : Nat) := IntWalk.i64_in _ (by omega)
 have hwrp : IntKind.i64.wrap ((p : Nat) : Int) = (p : Nat) := IntWalk.i64_in _ (by omega)
 obtain ⟨kk, hkk⟩ : ∃ q, q = k + 1 := ⟨_, rfl⟩
 obtain ⟨ix, hix⟩ : ∃ q, q = c1 + 2 := ⟨_, rfl⟩
 have e8 : (c1 : Int) + 2 = (ix : Nat) := by omega
 have e9' : ((k : Nat) : Int) + 1 = (kk : Nat) := by omega
 have k1 : IntKind.u64.wrap ((k : Nat) : Int) = (k : Nat) := IntWalk.u64_in _ (by omega)
 have k2 : IntKind.u64.wrap ((kk : Nat) : Int) = (kk : Nat) := IntWalk.u64_in _ (by omega)
 have k3 : IntKind.u64.wrap (((k : Nat) : Int) + 1) = (kk : Nat) := by rw [e9']; exact k2
 have hwrix : IntKind.i64.wrap ((ix : Nat) : Int) = (ix : Nat) := IntWalk.i64_in _ (by omega)
 obtain ⟨p1, hp1⟩ : ∃ q, q = p + 4 := ⟨_, rfl⟩
 have e10 : (p : Int) + 4 = (p1 : Nat) := by omega
 have q5 : p ≤ 9000 := by omega
 have HPL := Lib.hid (show p + 8 ≤ l.length ∧ p1 = p + 4 by omega)
 have k4 : IntKind.u64.wrap ((y0 : Nat) : Int) = (y0 : Nat) := IntWalk.u64_in _ (by omega)
 have k5 : IntKind.u64.wrap ((y1 : Nat) : Int) = (y1 : Nat) := IntWalk.u64_in _ (by omega)
 obtain ⟨G1, hG1⟩ : ∃ G, putAt (putAt l p 4 y0) p1 4 y1 = G := ⟨_, rfl⟩
 obtain ⟨H, hH⟩ : ∃ H, H = putAt G1 ix 2 kk := ⟨_, rfl⟩
 have hHH : returnD l B N k y0 y1 = H := by
  rw [hH, ← hG1, returnD, hj, show B + secN N + 4 + 8 * j = p by omega, show B + secN N + 2 = ix by omega, hkk, hp1]
 rw [hHH]
 have HPT1 := Lib.hid (show ∀ (ra : Option Addr) (rc : Nat), G1.length = l.length → ∀ W, Below w.heap.size w W → Given W w.heap.size (.slice va l.length vc) l (.slice ra l.length rc) G1 → Calls Tryz.prog 35 #[.agg #[.slice ra l.length rc], .int .i64 (ix : Nat), .int .i64 2, .int .u64 (kk : Nat)] W fun e w' => ∃ sa sc, e = .returned (.agg #[.slice sa l.length sc]) ∧ Given w' w.heap.size (.slice va l.length vc) l (.slice sa l.length sc) H ∧ Below W.heap.size W w' from
  fun ra rc hG1l W hb hg => (refPut_step hv hb hg hG1l ix 2 kk (by omega) hL (by omega) (by decide) (by decide)).mono fun e w' ⟨sa, sc, g1, g2, _, g4⟩ => ⟨sa, sc, g1, by rw [hH]; exact g2, g4⟩)
 have HGG := Lib.hid hG1
 clear hf1 hc1 hc2 hk hj hq hjn hp hkk hix e9' hG1 hH hHH hp1
 clear hN hsz hfit hL hok hv
 go_enter Tryz.func13, Tryz.ntmps13
 go_wp2_with fail
 refine (refRingCheck_any _ _ _ HMX.out _ _ true HC.out _).mono ?_
 rintro e w1 ⟨rfl, hb⟩
 replace HM := Lib.hid (row_keep HM.out hb)
 replace HR := Lib.hid (row_keep HR.out hb)
 replace HD := Lib.hid (row_keep HD.out hb)
 replace HB := Lib.hid (HB.out.trans (hb.mono HB.out.size))
 clear hb
 go_wp2_with fail
 go_quiet ((go_at_call 34; refine Calls.quiet_of_same (HF.out _)))
 clear htm hz hwj hwk hem e3 e6 e7
 obtain ⟨w2, hw2⟩ : ∃ u, u = w1.drewN nq := ⟨_, rfl⟩
 have hbd := below_drewN (Below.refl w1.heap.size w1) nq
 rw [← hw2] at hbd ⊢
 clear hw2
 replace HM := Lib.hid (row_keep HM.out hbd)
 replace HR := Lib.hid (row_keep HR.out hbd)
 replace HB := Lib.hid (HB.out.trans (hbd.mono HB.out.size))
 replace HD := Lib.hid (row_keep HD.out hbd)
 clear hbd
 have HS := Lib.hid (show RSt w (.slice va l.length vc) l va vc l w2 from { out := HB.out, mem := HM.out, giv := .inl ⟨rfl, rfl⟩, len := rfl })
 obtain ⟨d0, _⟩ := at_cell HD.out 0 _ rfl
 obtain ⟨c0, _⟩ := one_cell HS.out.mem
 go_wp2_with fail
 refine (refPut_step HV.out HS.out.out HS.out.giv HS.out.len p 4 y0 (by omega) HL.out (by have := HPL.out; omega) (by decide) (by decide)).mono ?_
 rintro e w3 ⟨ra0, rc0, rfl, hg, hl, hb⟩
 clear c0 d0
 have hm := row_keep HS.out.mem hb
 obtain ⟨m0, n0⟩ := one_cell hm
 replace HD := Lib.hid (one_other (row_keep HD.out hb) ⟨w.heap.size, 0, none⟩ (.slice ra0 l.length rc0) (blocks_ne (row_keep HD.out hb) hm tneUM.symm))
 replace HR := Lib.hid (one_other (row_keep HR.out hb) ⟨w.heap.size, 0, none⟩ (.slice ra0 l.length rc0) (by simp))
 replace HS := Lib.hid (HS.out.next hb hg hl)
 clear hm hg hl hb
 obtain ⟨d1, _⟩ := at_cell HD.out 1 _ rfl
 obtain ⟨c1, _⟩ := one_cell HS.out.mem
 go_wp2_with fail
 refine (refPut_step HV.out HS.out.out HS.out.giv HS.out.len p1 4 y1 (by omega) HL.out (by have := HPL.out; omega) (by decide) (by decide)).mono ?_
 rintro e w4 ⟨ra1, rc1, rfl, hg, hl, hb⟩
 clear m0 n0
 clear c1 d1
 have hm := row_keep HS.out.mem hb
 obtain ⟨m1, n1⟩ := one_cell hm
 replace HD := Lib.hid (one_other (row_keep HD.out hb) ⟨w.heap.size, 0, none⟩ (.slice ra1 l.length rc1) (blocks_ne (row_keep HD.out hb) hm tneUM.symm))
 replace HR := Lib.hid (one_other (row_keep HR.out hb) ⟨w.heap.size, 0, none⟩ (.slice ra1 l.length rc1) (by simp))
 replace HS := Lib.hid (HS.out.next hb hg hl)
 clear hm hg hl hb
 clear HD
 replace HM := Lib.hid HS.out.mem
 have HG1 := Lib.hid (show Given (w4.setCell ⟨w.heap.size, 0, none⟩ (.slice ra1 l.length rc1)) w.heap.size (.slice va l.length vc) l (.slice ra1 l.length rc1) G1 from by have h := HS.out.giv; rw [HGG.out] at h; exact h)
 have HPT := Lib.hid (HPT1.out ra1 rc1 (by have h := HS.out.len; rw [HGG.out] at h; exact h))
 replace HB := Lib.hid HS.out.out
 clear HS HPT1
 go_wp2_with fail
 clear m1 n1
 obtain ⟨w5, hw5⟩ : ∃ u, u = w4.setCell ⟨w.heap.size, 0, none⟩ (.slice ra1 l.length rc1) := ⟨_, rfl⟩
 rw [← hw5] at HM HG1 HB HR ⊢
 clear hw5
 refine wp_region_rec (X := RngRefReturnBX) (by kernel_rfl) (by kernel_rfl) (fun x => #[x.b0, x.b1, x.b2, x.b3, x.b4, x.b5, x.b6, x.b7, x.b8, x.b9, x.b10, x.b11]) (fun x => { tmps := List.toArray ((Value.agg #[Value.slice va l.length vc]) :: (Value.int IntKind.i64 ↑B) :: (Value.int IntKind.i64 ↑N) :: (Value.int IntKind.u16 ↑k) :: (Value.agg #[Value.int IntKind.u32 ↑y0, Value.int IntKind.u32 ↑y1]) :: (Value.pointer (some ⟨w.heap.size, 0, none⟩)) :: undef :: undef :: undef :: (Value.pointer (some ⟨w.heap.size + 1, 0, none⟩)) :: (Value.pointer (some ⟨w.heap.size + 1 + 1, 0, none⟩)) :: x.s11 :: (Value.int IntKind.i64 ↑p) :: (Value.agg #[Value.slice va l.length vc]) :: (Value.int IntKind.i64 ↑B) :: (Value.int IntKind.i64 ↑N) :: (Value.bool true) :: (Value.bool false) :: undef :: (Value.int IntKind.i64 ↑B) :: (Value.int IntKind.i64 ↑N) :: (Value.int IntKind.i64 ↑f1) :: (Value.int IntKind.i64 ↑c1) :: (Value.int IntKind.i64 ↑c2) :: (Value.int IntKind.u16 ↑k) :: (Value.int IntKind.i64 ↑k) :: (Value.int IntKind.i64 ↑N) :: (Value.int IntKind.i64 ↑j) :: (Value.int IntKind.i64 ↑q) :: (Value.int IntKind.i64 ↑p) :: (Value.agg #[Value.slice va l.length vc]) :: (Value.int IntKind.i64 ↑p) :: (Value.pointer (some ⟨w.heap.size + 1, 0, none⟩)) :: (Value.int IntKind.u32 ↑y0) :: (Value.int IntKind.u64 ↑y0) :: (Value.agg #[Value.slice ra0 l.length rc0]) :: (Value.agg #[Value.slice ra0 l.length rc0]) :: (Value.int IntKind.i64 ↑p) :: (Value.int IntKind.i64 ↑p1) :: (Value.pointer (some ⟨w.heap.size + 1, 1, none⟩)) :: (Value.int IntKind.u32 ↑y1) :: (Value.int IntKind.u64 ↑y1) :: (Value.agg #[Value.slice ra1 l.length rc1]) :: x.s43 :: x.s44 :: x.s45 :: x.s46 :: x.s47 :: x.s48 :: x.s49 :: x.s50 :: x.s51 :: x.s52 :: []), defers := [] }) (fun x W => (x.b0 = true → x.s43 = .agg #[.slice ra1 l.length rc1]) ∧ (x.b1 = true → x.s44 = .int .i64 (B : Nat)) ∧ (x.b2 = true → x.s45 = .int .i64 (N : Nat)) ∧ (x.b3 = true → x.s46 = .int .i64 (f1 : Nat)) ∧ (x.b4 = true → x.s47 = .int .i64 (c1 : Nat)) ∧ (x.b5 = true → x.s48 = .int .i64 (ix : Nat)) ∧ (x.b6 = true → x.s49 = .int .u16 (k : Nat)) ∧ (x.b7 = true → x.s50 = .int .u64 (k : Nat)) ∧ (x.b8 = true → x.s51 = .int .u64 (kk : Nat)) ∧ (x.b11 = true → x.s11 = .int .i64 0) ∧ (W.heap[w.heap.size]? = some (.cells #[.slice ra1 l.length rc1] 26 (0, 0))) ∧ (x.b9 = false → Given W w.heap.size (.slice va l.length vc) l (.slice ra1 l.length rc1) G1) ∧ (x.b9 = true → ∃ sa sc, x.s52 = .agg #[.slice sa l.length sc] ∧ Given W w.heap.size (.slice va l.length vc) l (.slice sa l.length sc) H) ∧ (x.b10 = false → W.heap[w.heap.size + 1 + 1]? = some (.cells #[.slice none 0 0] 26)) ∧ (x.b10 = true → ∃ sa sc, W.heap[w.heap.size + 1 + 1]? = some (.cells #[.slice sa l.length sc] 26 (0, 0)) ∧ Given W w.heap.size (.slice va l.length vc) l (.slice sa l.length sc) H) ∧ (x.b10 = true → x.b9 = true) ∧ (Below w.heap.size w W)) ⟨false, false, false, false, false, false, false, false, false, false, false, false, undef, undef, undef, undef, undef, undef, undef, undef, undef, undef, Value.int IntKind.i64 0⟩ rfl rfl ⟨(fun h => by cases h), (fun h => by cases h), (fun h => by cases h), (fun h => by cases h), (fun h => by cases h), (fun h => by cases h), (fun h => by cases h), (fun h => by cases h), (fun h => by cases h), (fun h => by cases h), HM.out, (fun _ => HG1.out.below ((Below.refl _ _).drew)), (fun h => by cases h), (fun _ => HR.out), (fun h => by cases h), (fun h => by cases h), HB.out.drew⟩ (fun _ => rfl) ?hstep ?hdone
 case hstep =>
  rintro ⟨b0, b1, b2, b3, b4, b5, b6, b7, b8, b9, b10, b11, s43, s44, s45, s46, s47, s48, s49, s50, s51, s52, s11⟩ W hI i hi
  dsimp only at hI hi ⊢
  have HI := Lib.hid hI
  clear hI
  rw [Region.ready, List.mem_filter, List.mem_range] at hi
  obtain ⟨hlt, hp⟩ := hi
  have hi7 : i = 0 ∨ i = 1 ∨ i = 2 ∨ i = 3 ∨ i = 4 ∨ i = 5 ∨ i = 6 ∨ i = 7 ∨ i = 8 ∨ i = 9 ∨ i = 10 ∨ i = 11 := by simp at hlt; omega
  clear hlt
  rcases hi7 with rfl | rfl | rfl | rfl | rfl | rfl | rfl | rfl | rfl | rfl | rfl | rfl
  all_goals simp [Region.binds] at hp
  · obtain rfl : b0 = false := by revert hp; cases b0 <;> simp
    clear hp
    refine inv_op (o := ⟨some 43, _, _, _, _, _⟩) rfl (fun K' hK' => ?_)
    have gM := HI.out.2.2.2.2.2.2.2.2.2.2.1
    obtain ⟨hc1, hc2⟩ := one_cell gM
    go_simp
    exact hK'.out _ _ ⟨.mk .., rfl, rfl, (Upd (fun _ => rfl)) HI.out⟩
  · obtain rfl : b1 = false := by revert hp; cases b1 <;> simp
    clear hp
    refine inv_op (o := ⟨some 44, _, _, _, _, _⟩) rfl (fun K' hK' => ?_)
    go_simp
    exact hK'.out _ _ ⟨.mk .., rfl, rfl, Nxt (Upd (fun _ => rfl)) HI.out⟩
  · obtain rfl : b2 = false := by revert hp; cases b2 <;> simp
    clear hp
    refine inv_op (o := ⟨some 45, _, _, _, _, _⟩) rfl (fun K' hK' => ?_)
    go_simp
    exact hK'.out _ _ ⟨.mk .., rfl, rfl, Nxt (Nxt (Upd (fun _ => rfl))) HI.out⟩
  · obtain ⟨rfl, e2⟩ : b3 = false ∧ b2 = true := by revert hp; cases b3 <;> cases b2 <;> simp
    clear hp
    obtain rfl := (HI.out.2.2.1) e2
    refine inv_op (o := ⟨some 46, _, _, _, _, _⟩) rfl (fun K' hK' => ?_)
    go_simp
    refine (HF.out W).mono ?_
    rintro e w2 ⟨rfl, rfl⟩
    exact hK'.out _ _ ⟨.mk .., rfl, rfl, Nxt (Nxt (Nxt (Upd (fun _ => rfl)))) HI.out⟩
  · obtain ⟨rfl, e1, e3⟩ : b4 = false ∧ b1 = true ∧ b3 = true := by revert hp; cases b4 <;> cases b1 <;> cases b3 <;> simp
    clear hp
    obtain rfl := (HI.out.2.1) e1
    obtain rfl := (HI.out.2.2.2.1) e3
    refine inv_op (o := ⟨some 47, _, _, _, _, _⟩) rfl (fun K' hK' => ?_)
    go_simp
    exact hK'.out _ _ ⟨.mk .., rfl, rfl, Nx4 (Upd (fun _ => rfl)) HI.out⟩
  · obtain ⟨rfl, e4⟩ : b5 = false ∧ b4 = true := by revert hp; cases b5 <;> cases b4 <;> simp
    clear hp
    obtain rfl := (HI.out.2.2.2.2.1) e4
    refine inv_op (o := ⟨some 48, _, _, _, _, _⟩) rfl (fun K' hK' => ?_)
    go_simp
    exact hK'.out _ _ ⟨.mk .., rfl, rfl, Nxt (Nx4 (Upd (fun _ => rfl))) HI.out⟩
  · obtain rfl : b6 = false := by revert hp; cases b6 <;> simp
    clear hp
    refine inv_op (o := ⟨some 49, _, _, _, _, _⟩) rfl (fun K' hK' => ?_)
    go_simp
    exact hK'.out _ _ ⟨.mk .., rfl, rfl, Nxt (Nxt (Nx4 (Upd (fun _ => rfl)))) HI.out⟩
  · obtain ⟨rfl, e6⟩ : b7 = false ∧ b6 = true := by revert hp; cases b7 <;> cases b6 <;> simp
    clear hp
    obtain rfl := (HI.out.2.2.2.2.2.2.1) e6
    refine inv_op (o := ⟨some 50, _, _, _, _, _⟩) rfl (fun K' hK' => ?_)
    go_simp
    exact hK'.out _ _ ⟨.mk .., rfl, rfl, Nxt (Nxt (Nxt (Nx4 (Upd (fun _ => rfl))))) HI.out⟩
  · obtain ⟨rfl, e7⟩ : b8 = false ∧ b7 = true := by revert hp; cases b8 <;> cases b7 <;> simp
    clear hp
    obtain rfl := (HI.out.2.2.2.2.2.2.2.1) e7
    refine inv_op (o := ⟨some 51, _, _, _, _, _⟩) rfl (fun K' hK' => ?_)
    go_simp
    exact hK'.out _ _ ⟨.mk .., rfl, rfl, Nx4 (Nx4 (Upd (fun _ => rfl))) HI.out⟩
  · have hn9 : b9 = false := by revert hp; cases b9 <;> simp
    have e0 : b0 = true := by revert hp; cases b0 <;> simp
    have e5 : b5 = true := by revert hp; cases b5 <;> simp
    have e8 : b8 = true := by revert hp; cases b8 <;> simp
    clear hp
    obtain rfl := (HI.out.1) e0
    obtain rfl := (HI.out.2.2.2.2.2.1) e5
    obtain rfl := (HI.out.2.2.2.2.2.2.2.2.1) e8
    subst hn9
    refine inv_op (o := ⟨some 52, _, _, _, _, _⟩) rfl (fun K' hK' => ?_)
    have gG := HI.out.2.2.2.2.2.2.2.2.2.2.2.1
    have gO := HI.out.2.2.2.2.2.2.2.2.2.2.2.2.2.2.2.2
    go_simp
    refine (HPT.out W gO (gG rfl)).mono ?_
    rintro e w9 ⟨sa, sc, rfl, hg, bn⟩
    obtain ⟨h0, h1, h2, h3, h4, h5, h6, h7, h8, h11, gM, gG, gP, gR, gB, gC, gO⟩ := HI.out
    exact hK'.out _ _ ⟨.mk .., rfl, rfl, h0, h1, h2, h3, h4, h5, h6, h7, h8, h11, (row_keep gM bn), (fun e => by cases e), (fun _ => ⟨sa, sc, rfl, hg⟩), (fun e => row_keep (gR e) bn), (fun e => by have h9 := gC e; cases h9), (fun _ => rfl), (gO.trans (bn.mono gO.size))⟩
  · have hn10 : b10 = false := by revert hp; cases b10 <;> simp
    have e0 : b0 = true := by revert hp; cases b0 <;> simp
    have e1 : b1 = true := by revert hp; cases b1 <;> simp
    have e2 : b2 = true := by revert hp; cases b2 <;> simp
    have e3 : b3 = true := by revert hp; cases b3 <;> simp
    have e4 : b4 = true := by revert hp; cases b4 <;> simp
    have e5 : b5 = true := by revert hp; cases b5 <;> simp
    have e6 : b6 = true := by revert hp; cases b6 <;> simp
    have e7 : b7 = true := by revert hp; cases b7 <;> simp
    have e8 : b8 = true := by revert hp; cases b8 <;> simp
    have e9 : b9 = true := by revert hp; cases b9 <;> simp
    clear hp
    subst hn10
    refine inv_op (o := ⟨none, _, _, _, _, _⟩) rfl (fun K' hK' => ?_)
    have gP := HI.out.2.2.2.2.2.2.2.2.2.2.2.2.1
    have gR := HI.out.2.2.2.2.2.2.2.2.2.2.2.2.2.1
    obtain ⟨sa, sc, rfl, hg⟩ := gP e9
    have hrow := gR rfl
    obtain ⟨hc1, hc2⟩ := one_cell hrow
    go_simp
    obtain ⟨h0, h1, h2, h3, h4, h5, h6, h7, h8, h11, gM, gG, gP, gR, gB, gC, gO⟩ := HI.out
    exact hK'.out _ _ ⟨.mk .., rfl, rfl, h0, h1, h2, h3, h4, h5, h6, h7, h8, h11, (one_other gM _ _ (by simp; try omega)), (fun e => by rw [e9] at e; cases e), (fun _ => ⟨sa, sc, rfl, hg.far hrow tneMU _⟩), (fun e => by cases e), (fun _ => ⟨sa, sc, one_set hrow _, hg.far hrow tneMU _⟩), (fun _ => e9), (gO.setCell (by simp; try omega) _)⟩
  · obtain rfl : b11 = false := by revert hp; cases b11 <;> simp
    clear hp
    refine inv_op (o := ⟨some 11, _, _, _, _, _⟩) rfl (fun K' hK' => ?_)
    go_simp
    exact hK'.out _ _ ⟨.mk .., rfl, rfl, Nxt (Nx4 (Nx4 (Upd (fun _ => rfl)))) HI.out⟩
 case hdone =>
  rintro ⟨b0, b1, b2, b3, b4, b5, b6, b7, b8, b9, b10, b11, s43, s44, s45, s46, s47, s48, s49, s50, s51, s52, s11⟩ W hI hall
  dsimp only at hI hall ⊢
  have HI := Lib.hid hI
  clear hI
  obtain rfl : b0 = true := hall 0 (by decide)
  obtain rfl : b1 = true := hall 1 (by decide)
  obtain rfl : b2 = true := hall 2 (by decide)
  obtain rfl : b3 = true := hall 3 (by decide)
  obtain rfl : b4 = true := hall 4 (by decide)
  obtain rfl : b5 = true := hall 5 (by decide)
  obtain rfl : b6 = true := hall 6 (by decide)
  obtain rfl : b7 = true := hall 7 (by decide)
  obtain rfl : b8 = true := hall 8 (by decide)
  obtain rfl : b9 = true := hall 9 (by decide)
  obtain rfl : b10 = true := hall 10 (by decide)
  obtain rfl : b11 = true := hall 11 (by decide)
  obtain rfl := (HI.out.2.2.2.2.2.2.2.2.2.1) rfl
  have gB := HI.out.2.2.2.2.2.2.2.2.2.2.2.2.2.2.1
  have gO := HI.out.2.2.2.2.2.2.2.2.2.2.2.2.2.2.2.2
  clear HI hall
  obtain ⟨sa, sc, hrow, hg⟩ := gB rfl
  obtain ⟨r0, f0⟩ := one_cell hrow
  have HG9 := Lib.hid hg
  have HO9 := Lib.hid gO
  clear hrow hg gB gO f0
  go_wp2
  refine bodyPost_ret (v := .tuple #[.agg #[.slice sa l.length sc], .int .i64 0]) (by simp [results, Tryz.results13, go_sem, r0]) rfl ⟨sa, sc, rfl, HG9.out, HO9.out⟩
end Go.Proofs.YtnmekbbnglkmcaaGreat
namespace Go.Proofs.YtnmekbbnglkmcaaGreat
open Go.RowKit Go.Lib
theorem okR_ring {L : Nat} {b z : Int} (h : ringF L b z = 70) : okR L b z = false := by
 rcases ring_cases L b z with ⟨h1, _⟩ | ⟨_, _, _, _, _, h1⟩
 · exact h1
 · omega
theorem refReturn_any (v : Value) (l : List UInt8) (b z : Int) (k : Nat) (hk : k < 65536) (y0 y1 : Nat) (hy0 : y0 < 4294967296) (hy1 : y1 < 4294967296) (F : Int) (G : List UInt8) (hF : ringF l.length b z = F) (hG : returnX l b z k y0 y1 = G) (hl : l.length ≤ 140737488355328) (w : World) (hv : IsArg w v l) :
 Calls Tryz.prog 13 #[.agg #[v], .int .i64 b, .int .i64 z, .int .u16 (k : Nat), .agg #[.int .u32 (y0 : Nat), .int .u32 (y1 : Nat)]] w (Wrote w v l G F) := by
 by_cases h0 : F = 0
 · subst h0
   obtain ⟨B, N, rfl, rfl, hok⟩ := ring_in hF
   rw [returnX_ok hok] at hG
   subst hG
   exact refReturn_in v l w hv B N hok k hk y0 y1 hy0 hy1 _ rfl
 · have h7 := ringF_two (by rw [hF]; exact h0)
   obtain rfl : F = 70 := by omega
   rw [returnX, if_neg (by rw [h7]; decide)] at hG
   subst hG
   exact refReturn_out v l b z k y0 y1 (okR_ring h7) hl w hv
theorem Wrote.arg {w : World} {v : Value} {l G : List UInt8} {F : Int} {e : Ending} {w' : World} (h : Wrote w v l G F e w') (hv : IsArg w v l) : ∃ ra rc, e = .returned (.tuple #[.agg #[.slice ra l.length rc], .int .i64 F]) ∧ IsArg w' (.slice ra l.length rc) G ∧ Below w.heap.size w w' := by
 obtain ⟨ra, rc, h1, h2, h3⟩ := h
 exact ⟨ra, rc, h1, h2.arg hv h3, h3⟩
end Go.Proofs.YtnmekbbnglkmcaaGreat
namespace Go.Proofs.YtnmekbbnglkmcaaGreat
open Go.RowKit Go.Lib
def measH (l : List UInt8) (q : QQ) : Nat := if q.chains.length < aheadQ l 0 8 q then 1 else aheadQ l 0 8 q
theorem measH_le {l : List UInt8} {q : QQ} (hg : GoodQ q 8) : measH l q ≤ 8 := by
 have h := hg.few
 unfold measH
 split <;> omega
def HadQ (q : QQ) (x y : Int) : Prop := ∃ (i : Nat) (c : QCh), q.chains[i]? = some c ∧ c.head = x ∧ 0 ≤ y ∧ y ≤ c.room
theorem ahead_step {l : List UInt8} {q q2 : QQ} (_ : q.last < 65536) (h0 : 0 < aheadQ l 0 8 q) (h1 : q2.last = (q.last + 1) % 65536) : aheadQ l 0 8 q2 + 1 = aheadQ l 0 8 q := by
 have hu := usedI_lt l 0 8
 unfold aheadQ at *
 rw [h1]
 omega
theorem poll_turn {l : List UInt8} {q q2 : QQ} {x y E : Int} (h : PollSpec l 0 8 q q2 x y E) (hg : GoodQ q 8) (hb : q.base = 0) :
 GoodQ q2 8 ∧ q2.base = 0 ∧ q2.avail = q.avail ∧ (E = 7 ∨ (E = 80 ∧ q2.chains.length = q.chains.length ∧ measH l q2 + 1 ≤ measH l q) ∨ (E = 0 ∧ q2.chains.length + 1 = q.chains.length ∧ measH l q2 + 1 ≤ measH l q ∧ HadQ q x y)) := by
 rcases h with ⟨h1, rfl, rfl, rfl, rfl⟩ | ⟨h1, rfl, rfl, rfl, rfl⟩ | ⟨h1, h2, h3, rfl, rfl, rfl, rfl⟩ | ⟨h1, h2, i, c, hc, hu, rfl, rfl, rfl, rfl⟩
 · exact ⟨hg, hb, rfl, .inl rfl⟩
 · refine ⟨hg.seen (usedI_lt l 0 8), hb, rfl, .inr (.inl ⟨rfl, rfl, ?_⟩)⟩
   have ha : aheadQ l 0 8 { q with last := usedI l 0 8 } = 0 := by
    have hu := usedI_lt l 0 8
    unfold aheadQ
    simp only
    omega
   unfold measH
   rw [ha, if_pos h1]
   simp
 · have ha := ahead_step (q2 := { q with last := (q.last + 1) % 65536 }) hg.la h1 rfl
   refine ⟨hg.seen (Nat.mod_lt _ (by decide)), hb, rfl, .inr (.inl ⟨rfl, rfl, ?_⟩)⟩
   have hl : ({ q with last := (q.last + 1) % 65536 } : QQ).chains.length = q.chains.length := rfl
   unfold measH
   rw [if_neg (by omega), if_neg (by rw [hl]; omega)]
   omega
 · have hi := (List.getElem?_eq_some_iff.1 hc).1
   have ha := ahead_step (q2 := relQ { q with last := (q.last + 1) % 65536 } i) hg.la h1 rfl
   have hl : (relQ { q with last := (q.last + 1) % 65536 } i).chains.length + 1 = q.chains.length := by
    show (q.chains.eraseIdx i).length + 1 = q.chains.length
    rw [List.length_eraseIdx, if_pos hi]
    omega
   refine ⟨relQ_good (hg.seen (Nat.mod_lt _ (by decide))) hi, hb, rfl, .inr (.inr ⟨rfl, hl, ?_, i, c, hc, ?_⟩)⟩
   · unfold measH
     rw [if_neg (by omega), if_neg (by omega)]
     omega
   · have h4 := of_decide_eq_true hu
     exact ⟨h4.1.symm, by omega, h4.2⟩
structure HQ (W : World) (fa : Option Addr) (fn fc : Nat) (xa : Option Addr) (xn xc av la : Nat) (q : QQ) : Prop where
 own : ∃ D, IsQ 0 W (.slice fa fn fc) (.slice xa xn xc) q D
 good : GoodQ q 8
 base : q.base = 0
 av : q.avail = av
 la : q.last = la
section
variable {W W' : World} {fa xa : Option Addr} {fn fc xn xc av la : Nat} {q : QQ}
theorem HQ.below (h : HQ W fa fn fc xa xn xc av la q) (hb : Below W.heap.size W W') : HQ W' fa fn fc xa xn xc av la q :=
 ⟨by obtain ⟨D, hD⟩ := h.own; exact ⟨D, hD.below hb⟩, h.good, h.base, h.av, h.la⟩
theorem HQ.stay {g : Nat} {cs : Array Value} {t : TypeId} {fr : Nat × Nat} (h : HQ W fa fn fc xa xn xc av la q) (hg : W.heap[g]? = some (.cells cs t fr)) (h1 : (t : Nat) ≠ 3) (h2 : (t : Nat) ≠ 76) (j : Nat) (u : Value) : HQ (W.setCell ⟨g, j, none⟩ u) fa fn fc xa xn xc av la q :=
 ⟨by obtain ⟨D, hD⟩ := h.own; exact ⟨D, hD.stay hg h1 h2 j u⟩, h.good, h.base, h.av, h.la⟩
theorem HQ.drew (h : HQ W fa fn fc xa xn xc av la q) : HQ W.drew fa fn fc xa xn xc av la q :=
 ⟨by obtain ⟨D, hD⟩ := h.own; exact ⟨D, hD.drew⟩, h.good, h.base, h.av, h.la⟩
theorem HQ.few (h : HQ W fa fn fc xa xn xc av la q) : fn = q.free.length ∧ xn = q.chains.length ∧ xn + fn ≤ 8 ∧ av < 65536 ∧ la < 65536 := by
 obtain ⟨D, hD⟩ := h.own
 obtain ⟨a, n, c, a', n', c', e1, e2, e3, e4, _⟩ := hD.shape
 cases e1
 cases e2
 have h1 := h.good.few
 have h2 := h.good.av
 have h3 := h.good.la
 rw [h.av] at h2
 rw [h.la] at h3
 exact ⟨e3, e4, by omega, h2, h3⟩
theorem hq_of {F C : Value} {D : List Value} (h : IsQ 0 W F C q D) (hg : GoodQ q 8) (hb : q.base = 0) (h1 : q.avail = av) (h2 : q.last = la) : ∃ fa fn fc xa xn xc, F = .slice fa fn fc ∧ C = .slice xa xn xc ∧ HQ W fa fn fc xa xn xc av la q := by
 obtain ⟨a, n, c, a', n', c', e1, e2, _⟩ := h.shape
 subst e1
 subst e2
 exact ⟨a, n, c, a', n', c', rfl, rfl, ⟨D, h⟩, hg, hb, h1, h2⟩
end
theorem ok8 (l : List UInt8) (h : l.length = 600) : RingOk l.length 0 8 := ⟨by omega, .inr (.inr (.inr (.inl rfl))), by rw [h]; decide⟩
theorem ring8 (l : List UInt8) (h : l.length = 600) : ringF l.length 0 8 = 0 := by rw [h]; decide
def hps (n : Int) : List QB := [(300, n, true)]
theorem hps_in (l : List UInt8) (h : l.length = 600) {n : Int} (h1 : 1 ≤ n) (h2 : n ≤ 32) : ∀ x ∈ hps n, InB l.length x := by
 rw [h]
 intro x hx
 simp [hps] at hx
 subst hx
 exact ⟨by show (0 : Int) ≤ 300; omega, by show (1 : Int) ≤ n; omega, by show (300 : Int) + n ≤ ((600 : Nat) : Int); omega⟩
theorem hps_room (n : Int) : roomOf (hps n) = n := by simp [roomOf, hps]
theorem run_zeros600 (W : World) : (Instr.makeSlice 24 (.int .i64 600) (.int .i64 600)).run Tryz.prog W = .ok (.slice (some ⟨W.heap.size, 0, none⟩) 600 600) (W.alloc (.cells (madeCells #[.int .u8 0] 600) 5)) := run_zerosK 600 (by decide) W
theorem new8_this (v : Value) (l : List UInt8) (w : World) (hv : OwnB 0 w v l) (hl : l.length = 600) :
 Calls Tryz.prog 7 #[.agg #[v], .int .i64 0, .int .i64 8] w fun e w' => ∃ ra rc fa fc xa xc G q, e = .returned (.tuple #[.agg #[.slice ra 600 rc], .agg #[.int .i64 0, .int .i64 8, .slice fa 8 fc, .int .u16 0, .int .u16 0, .slice xa 0 xc], .int .i64 0]) ∧ OwnB 0 w' (.slice ra 600 rc) G ∧ G.length = 600 ∧ HQ w' fa 8 fc xa 0 xc 0 0 q ∧ Below w.heap.size w w' := by
 refine (new_this v l 0 8 w hv (ok8 l hl) 0 8 600 rfl rfl hl).mono ?_
 rintro e w' ⟨ra, rc, F, C, rfl, h1, h2, h3⟩
 have hg : GoodQ (newQ 0 8) 8 := newQ_good (.inr (.inr (.inr (.inl rfl)))) (by decide)
 obtain ⟨fa, fn, fc, xa, xn, xc, rfl, rfl, hh⟩ := hq_of h2 hg rfl rfl rfl
 have hf := hh.few
 have e1 : fn = 8 := hf.1.trans (by show (upN 8).length = 8; exact upN_length 8)
 have e2 : xn = 0 := hf.2.1.trans rfl
 subst e1
 subst e2
 exact ⟨ra, rc, fa, fc, xa, xc, _, _, rfl, h1, (zeroM_length (ok8 l hl)).trans hl, hh, h3⟩
theorem add8_this (fa xa : Option Addr) (fn fc xn xc av la : Nat) (q : QQ) (v bv : Value) (l : List UInt8) (n : Int) (w : World) (hv : OwnB 0 w v l) (hq : HQ w fa fn fc xa xn xc av la q) (hbf : OwnBf 0 w bv (hps n)) (hl : l.length = 600) (h1 : 1 ≤ fn) (hn1 : 1 ≤ n) (hn2 : n ≤ 32) :
 Calls Tryz.prog 9 #[.agg #[v], .agg #[.int .i64 0, .int .i64 8, .slice fa fn fc, .int .u16 (av : Nat), .int .u16 (la : Nat), .slice xa xn xc], bv] w fun e w' => ∃ ra rc fa2 fn2 fc2 xa2 xn2 xc2 av2 q2 H G, e = .returned (.tuple #[.agg #[.slice ra 600 rc], .agg #[.int .i64 0, .int .i64 8, .slice fa2 fn2 fc2, .int .u16 (av2 : Nat), .int .u16 (la : Nat), .slice xa2 xn2 xc2], .int .i64 H, .int .i64 0]) ∧ OwnB 0 w' (.slice ra 600 rc) G ∧ G.length = 600 ∧ HQ w' fa2 fn2 fc2 xa2 xn2 xc2 av2 la q2 ∧ fn2 + 1 = fn ∧ Below w.heap.size w w' := by
 obtain ⟨D, hD⟩ := hq.own
 have hf := hq.few
 have hb1 : (hps n).length ≤ q.free.length := by show 1 ≤ _; omega
 refine (add_this q 8 0 _ _ v bv D l (hps n) w hv hD hbf hq.good hq.base (ok8 l hl) (Nat.le_refl 1) hb1 (show 1 ≤ 8 by decide) (hps_in l hl hn1 hn2) 0 8 (av : Nat) (la : Nat) (((q.avail + 1) % 65536 : Nat) : Int) (q.free.getD 0 0) 600 hq.base hq.good.size (by rw [hq.av]) (by rw [hq.la]) rfl rfl hl).mono ?_
 rintro e w' ⟨ra, rc, F, C, D2, rfl, h2, h3, h4⟩
 obtain ⟨fa2, fn2, fc2, xa2, xn2, xc2, rfl, rfl, hh⟩ := hq_of h3 (addQ_good hq.good (Nat.le_refl 1) hb1 (by rw [hps_room]; omega)) hq.base rfl hq.la
 have hf2 := hh.few
 refine ⟨ra, rc, fa2, fn2, fc2, xa2, xn2, xc2, _, _, _, _, rfl, h2, (addM_length (ok8 l hl) hq.good hb1).trans hl, hh, ?_, h4⟩
 have : fn2 = q.free.length - 1 := by rw [hf2.1]; show (q.free.drop 1).length = _; simp
 omega
theorem poll8_this (fa xa : Option Addr) (fn fc xn xc av la : Nat) (q : QQ) (v : Value) (l : List UInt8) (w : World) (hv : OwnB 0 w v l) (hq : HQ w fa fn fc xa xn xc av la q) (hl : l.length = 600) :
 Calls Tryz.prog 14 #[.agg #[v], .agg #[.int .i64 0, .int .i64 8, .slice fa fn fc, .int .u16 (av : Nat), .int .u16 (la : Nat), .slice xa xn xc]] w fun e w' => ∃ fa2 fn2 fc2 xa2 xn2 xc2 la2 q2 x y E, e = .returned (.tuple #[.agg #[.int .i64 0, .int .i64 8, .slice fa2 fn2 fc2, .int .u16 (av : Nat), .int .u16 (la2 : Nat), .slice xa2 xn2 xc2], .int .i64 x, .int .i64 y, .int .i64 E]) ∧ HQ w' fa2 fn2 fc2 xa2 xn2 xc2 av la2 q2 ∧
  (E = 7 ∨ (E = 80 ∧ xn2 = xn ∧ measH l q2 + 1 ≤ measH l q) ∨ (E = 0 ∧ xn2 + 1 = xn ∧ measH l q2 + 1 ≤ measH l q ∧ HadQ q x y)) ∧ Below w.heap.size w w' := by
 obtain ⟨D, hD⟩ := hq.own
 have hf := hq.few
 have h := poll_any q 8 0 _ _ v D l w hv hD hq.good hq.base (ok8 l hl)
 rw [hq.base, hq.good.size, hq.av, hq.la] at h
 refine h.mono ?_
 rintro e w' ⟨q2, x, y, E, F2, C2, D2, rfl, h1, h2, h3⟩
 obtain ⟨k1, k2, k3, k4⟩ := poll_turn h1 hq.good hq.base
 obtain ⟨fa2, fn2, fc2, xa2, xn2, xc2, rfl, rfl, hh⟩ := hq_of h2 k1 k2 (k3.trans hq.av) rfl
 have hf2 := hh.few
 rw [← hf.2.1, ← hf2.2.1] at k4
 exact ⟨fa2, fn2, fc2, xa2, xn2, xc2, _, q2, x, y, E, by rw [k2, k1.size, k3, hq.av]; rfl, hh, k4, h3⟩
theorem check8_this (fa xa : Option Addr) (fn fc xn xc av la : Nat) (q : QQ) (w : World) (hq : HQ w fa fn fc xa xn xc av la q) :
 Calls Tryz.prog 15 #[.agg #[.int .i64 0, .int .i64 8, .slice fa fn fc, .int .u16 (av : Nat), .int .u16 (la : Nat), .slice xa xn xc]] w fun e w' => e = .returned (.bool true) ∧ Below w.heap.size w w' := by
 obtain ⟨D, hD⟩ := hq.own
 exact check_this q 8 _ _ D w hD hq.good 0 8 _ _ hq.base hq.good.size (by rw [hq.av]) (by rw [hq.la])
theorem had8_this (fa xa : Option Addr) (fn fc xn xc av la : Nat) (q : QQ) (x y : Int) (w : World) (hq : HQ w fa fn fc xa xn xc av la q) (hh : HadQ q x y) :
 Calls Tryz.prog 16 #[.agg #[.int .i64 0, .int .i64 8, .slice fa fn fc, .int .u16 (av : Nat), .int .u16 (la : Nat), .slice xa xn xc], .int .i64 x, .int .i64 y] w fun e w' => e = .returned (.bool true) ∧ Below w.heap.size w w' := by
 obtain ⟨D, hD⟩ := hq.own
 obtain ⟨i, c, h1, h2, h3⟩ := hh
 have hf := hq.good.few
 have h := had_any 0 q _ _ D i c x y w hD (by omega) h1 h2 h3
 rw [hq.base, hq.good.size, hq.av, hq.la] at h
 exact h
theorem retref8_this (v : Value) (l : List UInt8) (k : Nat) (hk : k < 65536) (x y : Nat) (hx : x < 4294967296) (hy : y < 4294967296) (w : World) (hv : OwnB 0 w v l) (hl : l.length = 600) (G : List UInt8) (hG : returnX l 0 8 k x y = G) :
 Calls Tryz.prog 13 #[.agg #[v], .int .i64 0, .int .i64 8, .int .u16 (k : Nat), .agg #[.int .u32 (x : Nat), .int .u32 (y : Nat)]] w fun e w' => ∃ ra rc, e = .returned (.tuple #[.agg #[.slice ra 600 rc], .int .i64 0]) ∧ OwnB 0 w' (.slice ra 600 rc) G ∧ Below w.heap.size w w' := by
 refine (refReturn_any v l 0 8 k hk x y hx hy 0 G (ring8 l hl) hG (by rw [hl]; decide) w hv.arg).mono ?_
 rintro e w' ⟨ra, rc, rfl, hgv, hb⟩
 rw [hl] at hgv ⊢
 exact ⟨ra, rc, rfl, hgv.ownB hv hb, hb⟩
def IsUseds (w : World) (v : Value) (l : List (Nat × Nat)) : Prop :=
 (v = .slice none 0 0 ∧ l = []) ∨ ∃ ad c, v = .slice (some ad) l.length c ∧ l.length ≤ c ∧ c ≤ maxLen ∧ ∀ j, j < l.length → w.cell? (ad.add (j * 2)) = some (.int .u32 (((l.getD j (0, 0)).1 : Nat) : Int)) ∧ w.cell? (ad.add (j * 2 + 1)) = some (.int .u32 (((l.getD j (0, 0)).2 : Nat) : Int)) ∧ (l.getD j (0, 0)).1 < 4294967296 ∧ (l.getD j (0, 0)).2 < 4294967296
def IsHalves (w : World) (v : Value) (l : List Nat) : Prop :=
 (v = .slice none 0 0 ∧ l = []) ∨ ∃ ad c, v = .slice (some ad) l.length c ∧ l.length ≤ c ∧ c ≤ maxLen ∧ ∀ j, j < l.length → w.cell? (ad.add j) = some (.int .u16 ((l.getD j 0 : Nat) : Int)) ∧ l.getD j 0 < 65536
theorem useds_nil (w : World) : IsUseds w (.slice none 0 0) [] := .inl ⟨rfl, rfl⟩
theorem halves_nil (w : World) : IsHalves w (.slice none 0 0) [] := .inl ⟨rfl, rfl⟩
theorem IsUseds.below {w w' : World} {v : Value} {l : List (Nat × Nat)} (h : IsUseds w v l) (hb : Below w.heap.size w w') : IsUseds w' v l := by
 rcases h with h | ⟨ad, c, h1, h2, h3, h4⟩
 · exact .inl h
 · exact .inr ⟨ad, c, h1, h2, h3, fun j hj => by
    have h5 := h4 j hj
    rw [hb.cell (World.block_lt_of_cell? w _ h5.1), hb.cell (World.block_lt_of_cell? w _ h5.2.1)]; exact h5⟩
theorem IsHalves.below {w w' : World} {v : Value} {l : List Nat} (h : IsHalves w v l) (hb : Below w.heap.size w w') : IsHalves w' v l := by
 rcases h with h | ⟨ad, c, h1, h2, h3, h4⟩
 · exact .inl h
 · exact .inr ⟨ad, c, h1, h2, h3, fun j hj => by
    have h5 := h4 j hj
    rw [hb.cell (World.block_lt_of_cell? w _ h5.1)]; exact h5⟩
theorem IsUseds.shape {w : World} {v : Value} {l : List (Nat × Nat)} (h : IsUseds w v l) : ∃ a n c, v = .slice a n c ∧ n = l.length := by
 rcases h with ⟨rfl, rfl⟩ | ⟨ad, c, rfl, _⟩
 · exact ⟨none, 0, 0, rfl, rfl⟩
 · exact ⟨some ad, _, c, rfl, rfl⟩
theorem IsHalves.shape {w : World} {v : Value} {l : List Nat} (h : IsHalves w v l) : ∃ a n c, v = .slice a n c ∧ n = l.length := by
 rcases h with ⟨rfl, rfl⟩ | ⟨ad, c, rfl, _⟩
 · exact ⟨none, 0, 0, rfl, rfl⟩
 · exact ⟨some ad, _, c, rfl, rfl⟩
theorem spot_none {w : World} {ad : Addr} {v : Value} (h : w.cell? ad = some v) : ∃ b off, ad = ⟨b, off, none⟩ := by
 obtain ⟨b, off, spot⟩ := ad
 cases spot with
 | none => exact ⟨b, off, rfl⟩
 | some x =>
   exfalso
   unfold World.cell? at h
   split at h
   · simp at h
   · cases h
theorem IsUseds.at {w : World} {a : Option Addr} {n c : Nat} {l : List (Nat × Nat)} (h : IsUseds w (.slice a n c) l) (hk : 0 < l.length) :
 ∃ b off, a = some ⟨b, off, none⟩ ∧ ∀ k, k < l.length → w.cell? ⟨b, off + k * 2, none⟩ = some (.int .u32 (((l.getD k (0, 0)).1 : Nat) : Int)) ∧ w.cell? ⟨b, off + k * 2 + 1, none⟩ = some (.int .u32 (((l.getD k (0, 0)).2 : Nat) : Int)) ∧ (l.getD k (0, 0)).1 < 4294967296 ∧ (l.getD k (0, 0)).2 < 4294967296 := by
 rcases h with ⟨_, rfl⟩ | ⟨ad, c', h1, _, _, h4⟩
 · simp at hk
 · cases h1
   have h6 := (h4 0 hk).1
   rw [Nat.zero_mul, Addr.add_zero'] at h6
   obtain ⟨b, off, rfl⟩ := spot_none h6
   refine ⟨b, off, rfl, fun k hk' => ?_⟩
   have h5 := h4 k hk'
   rw [Addr.add_lit, Addr.add_lit] at h5
   exact h5
theorem IsHalves.at {w : World} {a : Option Addr} {n c : Nat} {l : List Nat} (h : IsHalves w (.slice a n c) l) (hk : 0 < l.length) :
 ∃ b off, a = some ⟨b, off, none⟩ ∧ ∀ k, k < l.length → w.cell? ⟨b, off + k, none⟩ = some (.int .u16 ((l.getD k 0 : Nat) : Int)) ∧ l.getD k 0 < 65536 := by
 rcases h with ⟨_, rfl⟩ | ⟨ad, c', h1, _, _, h4⟩
 · simp at hk
 · cases h1
   have h6 := (h4 0 hk).1
   rw [Addr.add_zero'] at h6
   obtain ⟨b, off, rfl⟩ := spot_none h6
   refine ⟨b, off, rfl, fun k hk' => ?_⟩
   have h5 := h4 k hk'
   rw [Addr.add_lit] at h5
   exact h5
end Go.Proofs.YtnmekbbnglkmcaaGreat
namespace Go.Proofs.YtnmekbbnglkmcaaGreat
open Go.RowKit Go.Lib
def setAll (X : World) (g : Nat) : Nat → List Value → World
 | _, [] => X
 | i, v :: r => setAll (X.setCell ⟨g, i, none⟩ v) g (i + 1) r
theorem setAll_any {g : Nat} {t : TypeId} {fr : Nat × Nat} {P : World → Prop} (vs : List Value) (i : Nat) (X : World) (cs : Array Value) (hr : X.heap[g]? = some (.cells cs t fr)) (h : P X)
 (st : ∀ (W : World) (ds : Array Value) (j : Nat) (u : Value), W.heap[g]? = some (.cells ds t fr) → P W → P (W.setCell ⟨g, j, none⟩ u)) : P (setAll X g i vs) := by
 induction vs generalizing i X cs with
 | nil => exact h
 | cons v r ih => exact ih (i + 1) _ _ (row_put hr i v) (st X cs i v hr h)
theorem setAll_list {g : Nat} {t : TypeId} {fr : Nat × Nat} (vs : List Value) (i : Nat) (X : World) (cs : Array Value) (hr : X.heap[g]? = some (.cells cs t fr)) (hl : i + vs.length = cs.size) :
 ∃ ds : Array Value, (setAll X g i vs).heap[g]? = some (.cells ds t fr) ∧ ds.toList = cs.toList.take i ++ vs := by
 induction vs generalizing i X cs with
 | nil => exact ⟨cs, hr, by rw [List.append_nil, List.take_of_length_le (by rw [Array.length_toList]; simp at hl; omega)]⟩
 | cons v r ih =>
   simp only [List.length_cons] at hl
   obtain ⟨ds, h1, h2⟩ := ih (i + 1) _ _ (row_put hr i v) (by rw [Array.size_setIfInBounds]; omega)
   refine ⟨ds, h1, ?_⟩
   have hi : i < cs.toList.length := by rw [Array.length_toList]; omega
   rw [h2, Array.toList_setIfInBounds, List.take_add_one, List.take_set_of_le (Nat.le_refl i), List.getElem?_set_self hi]
   simp
theorem setAll_new {g : Nat} {t : TypeId} {fr : Nat × Nat} (vs : List Value) {X : World} {cs : Array Value} (hr : X.heap[g]? = some (.cells cs t fr)) (hl : vs.length = cs.size) : (setAll X g 0 vs).heap[g]? = some (.cells vs.toArray t fr) := by
 obtain ⟨ds, h1, h2⟩ := setAll_list vs 0 X cs hr (by omega)
 have h3 : ds = vs.toArray := Array.toList_inj.1 (by rw [h2]; simp)
 rw [h1, h3]
end Go.Proofs.YtnmekbbnglkmcaaGreat
namespace Go.Proofs.YtnmekbbnglkmcaaGreat
open Go.RowKit Go.Lib
structure QueHoA where
 (b0 b1 b2 b3 b4 b5 b6 b7 b8 b9 b10 b11 : Bool)
 (s81 s82 s83 s84 s85 s86 s87 s88 s80 s89 s90 : Value)
structure QueHoB where
 (b0 b1 b2 b3 b4 b5 b6 b7 b8 b9 b10 b11 b12 b13 : Bool)
 (s98 s99 s100 s101 s102 s103 s104 s105 s106 s107 s97 s108 s109 : Value)
set_option maxHeartbeats 8000000 in
set_option maxRecDepth 100000 in
theorem queueHostile_main (w : World) (v : Value) (l : List Int) (hv : IsInts w v l) (u : Value) (t : List (Nat × Nat)) (hu : IsUseds w u t) (o : Value) (s : List Nat) (hj : IsHalves w o s) (hc : l.length ≤ 8 ∧ t.length ≤ 60 ∧ t.length ≤ s.length) :
 Calls Tryz.prog 4 #[v, u, o] w fun e w' => e = .returned (.bool true) ∧ Below w.heap.size w w' := by
 obtain ⟨va, vn, vc, rfl, hvn⟩ : ∃ a n c, v = .slice a n c ∧ n = l.length := by obtain ⟨a, c, h, _⟩ := hv.1.shape; exact ⟨a, _, c, h, rfl⟩
 obtain ⟨ua, un, uc, rfl, hun⟩ := hu.shape
 obtain ⟨ja, jn, jc, rfl, hjn⟩ := hj.shape
 have HV := Lib.hid hv
 have HU := Lib.hid hu
 have HJ := Lib.hid hj
 have HVN := Lib.hid hvn
 have HUN := Lib.hid hun
 have HJN := Lib.hid hjn
 obtain ⟨l0, hl0⟩ : ∃ l : List UInt8, l = List.replicate 600 0 := ⟨_, rfl⟩
 have hn0 : l0.length = 600 := by rw [hl0]; simp
 have HN0 := Lib.hid hn0
 have hzz := zerosK_own w 600 (by decide)
 rw [← hl0] at hzz
 have AM := Lib.hid hzz
 have BW := Lib.hid ((Below.refl w.heap.size w).alloc (Nat.le_refl _) (.cells (madeCells #[.int .u8 0] 600) 5))
 have hmk := run_zeros600
 have hc1 : vn ≤ 8 := by rw [hvn]; exact hc.1
 have hc2 : un ≤ 60 := by rw [hun]; exact hc.2.1
 have hc3 : un ≤ jn := by rw [hun, hjn]; exact hc.2.2
 have d1 : decide ((8 : Int) < ((vn : Nat) : Int)) = false := decide_eq_false (by omega)
 have d2 : decide ((60 : Int) < ((un : Nat) : Int)) = false := decide_eq_false (by omega)
 have d3 : decide (((jn : Nat) : Int) < ((un : Nat) : Int)) = false := decide_eq_false (by omega)
 have HC3 := Lib.hid hc3
 have HC1 := Lib.hid hc1
 clear hv hu hj hvn hun hjn hl0 hn0 hzz hc
 go_enter Tryz.func4, Tryz.ntmps4
 go_wp2_with fail
 refine (new8_this _ l0 _ AM.out HN0.out).mono ?_
 rintro e w1 ⟨aa, ca, fa0, fc0, xa0, xc0, G1, q1, rfl, hm, hgl, hq, hb⟩
 clear hmk d1 d2 d3
 have HG1 := Lib.hid hgl
 clear hgl
 replace AM := Lib.hid (AM.out.below hb)
 replace BW := Lib.hid (BW.out.trans (hb.mono BW.out.size))
 have Aa := Lib.hid hm
 clear hm
 have Qa := Lib.hid hq
 clear hq
 clear hb
 clear AM
 have HS1 := Lib.hid (show w.heap.size ≤ w1.heap.size from BW.out.size)
 have hbx : Below (w1).heap.size (w1) ((w1).alloc (.cells #[.slice aa 600 ca] 26)) := (Below.refl _ _).alloc (Nat.le_refl _) _
 replace BW := Lib.hid (BW.out.trans (hbx.mono BW.out.size))
 replace Aa := Lib.hid (Aa.out.below hbx)
 replace Qa := Lib.hid (Qa.out.below hbx)
 have Rm := Lib.hid (heap_alloc_new (w1) (.cells #[.slice aa 600 ca] 26))
 clear hbx
 have hbx : Below ((w1).alloc (.cells #[.slice aa 600 ca] 26)).heap.size ((w1).alloc (.cells #[.slice aa 600 ca] 26)) (((w1).alloc (.cells #[.slice aa 600 ca] 26)).alloc (.cells #[.int .i64 0, .int .i64 8, .slice fa0 8 fc0, .int .u16 0, .int .u16 0, .slice xa0 0 xc0] 30)) := (Below.refl _ _).alloc (Nat.le_refl _) _
 replace BW := Lib.hid (BW.out.trans (hbx.mono BW.out.size))
 replace Aa := Lib.hid (Aa.out.below hbx)
 replace Qa := Lib.hid (Qa.out.below hbx)
 replace Rm := Lib.hid (row_keep Rm.out hbx)
 have Rq := Lib.hid (heap_alloc_new ((w1).alloc (.cells #[.slice aa 600 ca] 26)) (.cells #[.int .i64 0, .int .i64 8, .slice fa0 8 fc0, .int .u16 0, .int .u16 0, .slice xa0 0 xc0] 30))
 clear hbx
 have hsz : ((w1).alloc (.cells #[.slice aa 600 ca] 26)).heap.size = w1.heap.size + 1 := by simp
 rw [hsz] at Rq
 clear hsz
 obtain ⟨lRm0c1, zRm0c1⟩ := at_cell Rm.out 0 _ rfl
 clear zRm0c1
 go_wp2
 clear lRm0c1
 go_loopw [9, 10] (fun e i wr => ∃ (j : Nat) (am : Option Addr) (cm : Nat) (fm : Option Addr) (fn fc : Nat) (xm : Option Addr) (xn xc av la : Nat) (q : QQ) (G : List UInt8), j ≤ vn ∧ e = .int .i64 0 ∧ i = .int .i64 (j : Nat) ∧ G.length = 600 ∧ fn + j = 8 ∧ wr.heap[w1.heap.size]? = some (.cells #[.slice am 600 cm] 26 (0, 0)) ∧ wr.heap[w1.heap.size + 1]? = some (.cells #[.int .i64 0, .int .i64 8, .slice fm fn fc, .int .u16 (av : Nat), .int .u16 (la : Nat), .slice xm xn xc] 30 (0, 0)) ∧ OwnB 0 wr (.slice am 600 cm) G ∧ HQ wr fm fn fc xm xn xc av la q ∧ Below w.heap.size w wr) (fun _ i _ => vn - (intOf i).toNat)
 case atStart => exact ⟨0, _, _, _, _, _, _, _, _, 0, 0, _, G1, Nat.zero_le _, rfl, rfl, HG1.out, rfl, Rm.out, Rq.out, Aa.out, Qa.out, BW.out⟩
 case round =>
  obtain ⟨j, am, cm, fm, fn, fc, xm, xn, xc, av, la, q, G, hj, rfl, rfl, hG, hf, hm, hq, ho, hi, hb⟩ := hrel
  have Rm := Lib.hid hm
  have Rq := Lib.hid hq
  have Am := Lib.hid ho
  have Qm := Lib.hid hi
  have BW := Lib.hid hb
  have HG := Lib.hid hG
  clear hm hq ho hi hb hG
  have HF := Lib.hid hf
  clear hf
  rcases Nat.lt_or_ge j vn with hlt | hge
  · obtain ⟨bx, off, rfl, hx⟩ := (HV.out.below BW.out).at j (by rw [← HVN.out]; exact hlt)
    obtain ⟨xj, hxj⟩ : ∃ x, l.getD j 0 = x := ⟨_, rfl⟩
    rw [hxj] at hx
    obtain ⟨y, hy, hya⟩ := and_small xj 31 (by decide)
    have hya : bits BinOp.and IntKind.i64 xj 31 = (y : Int) := hya
    have HY := Lib.hid hy
    have HFN := Lib.hid (show 1 ≤ fn by have := HF.out; have := HC1.out; omega)
    clear hxj
    obtain ⟨lRm0c2, zRm0c2⟩ := at_cell Rm.out 0 _ rfl
    clear zRm0c2
    obtain ⟨lRq0c3, zRq0c3⟩ := at_cell Rq.out 0 _ rfl
    clear zRq0c3
    obtain ⟨lRq1c4, zRq1c4⟩ := at_cell Rq.out 1 _ rfl
    clear zRq1c4
    obtain ⟨lRq2c5, zRq2c5⟩ := at_cell Rq.out 2 _ rfl
    clear zRq2c5
    obtain ⟨lRq3c6, zRq3c6⟩ := at_cell Rq.out 3 _ rfl
    clear zRq3c6
    obtain ⟨lRq4c7, zRq4c7⟩ := at_cell Rq.out 4 _ rfl
    clear zRq4c7
    obtain ⟨lRq5c8, zRq5c8⟩ := at_cell Rq.out 5 _ rfl
    clear zRq5c8
    have hbx : Below (wr).heap.size (wr) ((wr).alloc (.cells #[.int .i64 300, .int .i64 (1 + (y : Nat)), .bool true] 39)) := (Below.refl _ _).alloc (Nat.le_refl _) _
    replace Rm := Lib.hid (row_keep Rm.out hbx)
    replace Rq := Lib.hid (row_keep Rq.out hbx)
    replace Am := Lib.hid (Am.out.below hbx)
    replace Qm := Lib.hid (Qm.out.below hbx)
    replace BW := Lib.hid (BW.out.trans (hbx.mono BW.out.size))
    have hpr := buf_row (wr) 300 (1 + (y : Nat)) true
    have hsz : (wr).heap.size = wr.heap.size := by simp
    rw [hsz] at hpr
    have BF := Lib.hid hpr
    clear hbx hsz hpr
    go_wp2_with fail
    refine (add8_this _ _ _ _ _ _ _ _ q _ _ G (1 + (y : Nat)) _ Am.out Qm.out BF.out HG.out HFN.out (by omega) (by have := HY.out; omega)).mono ?_
    rintro e w2 ⟨ab, cb, f2, fn2, fc2, x2, xn2, xc2, av2, q2, H, G2, rfl, hm, hgl, hq, hfe, hb⟩
    have HG2 := Lib.hid hgl
    have HFE := Lib.hid hfe
    clear hgl hfe
    clear lRm0c2 lRq0c3 lRq1c4 lRq2c5 lRq3c6 lRq4c7 lRq5c8 hx hya
    replace Rm := Lib.hid (row_keep Rm.out hb)
    replace Rq := Lib.hid (row_keep Rq.out hb)
    replace Am := Lib.hid (Am.out.below hb)
    replace Qm := Lib.hid (Qm.out.below hb)
    replace BW := Lib.hid (BW.out.trans (hb.mono BW.out.size))
    replace BF := Lib.hid (BF.out.below hb)
    have Ab := Lib.hid hm
    clear hm
    have Qb := Lib.hid hq
    clear hq
    clear hb
    clear BF
    obtain ⟨lRm0c9, zRm0c9⟩ := at_cell Rm.out 0 _ rfl
    obtain ⟨lRq0c10, zRq0c10⟩ := at_cell Rq.out 0 _ rfl
    obtain ⟨lRq1c11, zRq1c11⟩ := at_cell Rq.out 1 _ rfl
    obtain ⟨lRq2c12, zRq2c12⟩ := at_cell Rq.out 2 _ rfl
    obtain ⟨lRq3c13, zRq3c13⟩ := at_cell Rq.out 3 _ rfl
    obtain ⟨lRq4c14, zRq4c14⟩ := at_cell Rq.out 4 _ rfl
    obtain ⟨lRq5c15, zRq5c15⟩ := at_cell Rq.out 5 _ rfl
    have hlm := (Array.getElem?_eq_some_iff.1 Rm.out).1
    have hlq := (Array.getElem?_eq_some_iff.1 Rq.out).1
    obtain ⟨vs16, hvs16⟩ : ∃ l : List Value, l = [.slice ab 600 cb] := ⟨_, rfl⟩
    obtain ⟨wa16, hwa16⟩ : ∃ y, y = setAll w2 (w1.heap.size) 0 vs16 := ⟨_, rfl⟩
    have Rqn := setAll_any (P := fun W => W.heap[w1.heap.size + 1]? = _) vs16 0 w2 _ Rm.out Rq.out (fun _ _ j u _ h => one_other h ⟨w1.heap.size, j, none⟩ u (show w1.heap.size ≠ w1.heap.size + 1 by omega))
    have Amn := setAll_any (P := fun W => OwnB 0 W _ _) vs16 0 w2 _ Rm.out Am.out (fun _ _ j u r h => h.stay r (by decide) j u)
    have Qmn := setAll_any (P := fun W => HQ W _ _ _ _ _ _ _ _ _) vs16 0 w2 _ Rm.out Qm.out (fun _ _ j u r h => h.stay r (by decide) (by decide) j u)
    have BWn := setAll_any (P := fun W => Below w.heap.size w W) vs16 0 w2 _ Rm.out BW.out (fun _ _ j u _ h => h.setCell (p := ⟨w1.heap.size, j, none⟩) (HS1.out) u)
    have Abn := setAll_any (P := fun W => OwnB 0 W _ _) vs16 0 w2 _ Rm.out Ab.out (fun _ _ j u r h => h.stay r (by decide) j u)
    have Qbn := setAll_any (P := fun W => HQ W _ _ _ _ _ _ _ _ _) vs16 0 w2 _ Rm.out Qb.out (fun _ _ j u r h => h.stay r (by decide) (by decide) j u)
    have Rmn := setAll_new vs16 Rm.out (by rw [hvs16]; rfl)
    rw [← hwa16] at Rqn Amn Qmn BWn Abn Qbn Rmn
    rw [hvs16] at Rmn
    replace Rq := Lib.hid Rqn
    replace Am := Lib.hid Amn
    replace Qm := Lib.hid Qmn
    replace BW := Lib.hid BWn
    replace Ab := Lib.hid Abn
    replace Qb := Lib.hid Qbn
    replace Rm := Lib.hid Rmn
    clear Rqn Amn Qmn BWn Abn Qbn Rmn
    obtain ⟨vs17, hvs17⟩ : ∃ l : List Value, l = [.int .i64 0, .int .i64 8, .slice f2 fn2 fc2, .int .u16 (av2 : Nat), .int .u16 (la : Nat), .slice x2 xn2 xc2] := ⟨_, rfl⟩
    obtain ⟨wa17, hwa17⟩ : ∃ y, y = setAll wa16 (w1.heap.size + 1) 0 vs17 := ⟨_, rfl⟩
    have Rmn := setAll_any (P := fun W => W.heap[w1.heap.size]? = _) vs17 0 wa16 _ Rq.out Rm.out (fun _ _ j u _ h => one_other h ⟨w1.heap.size + 1, j, none⟩ u (show w1.heap.size + 1 ≠ w1.heap.size by omega))
    have Amn := setAll_any (P := fun W => OwnB 0 W _ _) vs17 0 wa16 _ Rq.out Am.out (fun _ _ j u r h => h.stay r (by decide) j u)
    have Qmn := setAll_any (P := fun W => HQ W _ _ _ _ _ _ _ _ _) vs17 0 wa16 _ Rq.out Qm.out (fun _ _ j u r h => h.stay r (by decide) (by decide) j u)
    have BWn := setAll_any (P := fun W => Below w.heap.size w W) vs17 0 wa16 _ Rq.out BW.out (fun _ _ j u _ h => h.setCell (p := ⟨w1.heap.size + 1, j, none⟩) ((by show w.heap.size ≤ w1.heap.size + 1; have := HS1.out; omega)) u)
    have Abn := setAll_any (P := fun W => OwnB 0 W _ _) vs17 0 wa16 _ Rq.out Ab.out (fun _ _ j u r h => h.stay r (by decide) j u)
    have Qbn := setAll_any (P := fun W => HQ W _ _ _ _ _ _ _ _ _) vs17 0 wa16 _ Rq.out Qb.out (fun _ _ j u r h => h.stay r (by decide) (by decide) j u)
    have Rqn := setAll_new vs17 Rq.out (by rw [hvs17]; rfl)
    rw [← hwa17] at Rmn Amn Qmn BWn Abn Qbn Rqn
    rw [hvs17] at Rqn
    replace Rm := Lib.hid Rmn
    replace Am := Lib.hid Amn
    replace Qm := Lib.hid Qmn
    replace BW := Lib.hid BWn
    replace Ab := Lib.hid Abn
    replace Qb := Lib.hid Qbn
    replace Rq := Lib.hid Rqn
    clear Rmn Amn Qmn BWn Abn Qbn Rqn
    go_simp
    iterate 24 (first | go_step | go_values | go_skip | go_guarded | go_upon | go_in | go_back)
    clear lRm0c9 zRm0c9 lRq0c10 zRq0c10 lRq1c11 zRq1c11 lRq2c12 zRq2c12 lRq3c13 zRq3c13 lRq4c14 zRq4c14 lRq5c15 zRq5c15 hlm hlq
    rw [show (((((((w2.setCell ⟨w1.heap.size, 0, none⟩ (.slice ab 600 cb)).setCell ⟨w1.heap.size + 1, 0, none⟩ (.int .i64 0)).setCell ⟨w1.heap.size + 1, 1, none⟩ (.int .i64 8)).setCell ⟨w1.heap.size + 1, 2, none⟩ (.slice f2 fn2 fc2)).setCell ⟨w1.heap.size + 1, 3, none⟩ (.int .u16 (av2 : Nat))).setCell ⟨w1.heap.size + 1, 4, none⟩ (.int .u16 (la : Nat))).setCell ⟨w1.heap.size + 1, 5, none⟩ (.slice x2 xn2 xc2)) = wa17 from by rw [hwa17, hvs17, hwa16, hvs16]; rfl]
    clear hwa17 hvs17 hwa16 hvs16
    go_wp2
    go_roundw
    case rel => exact ⟨j + 1, _, _, _, _, _, _, _, _, av2, la, _, G2, by omega, rfl, by go_num, HG2.out, by have := HF.out; have := HFE.out; omega, Rm.out, Rq.out, Ab.out, Qb.out, BW.out⟩
    case measure => simp [intOf]; omega
  obtain rfl : vn = j := by omega
  clear hge
  go_wp2
  go_loopw [12] (fun i wr => ∃ (j : Nat) (am : Option Addr) (cm : Nat) (fm : Option Addr) (fn fc : Nat) (xm : Option Addr) (xn xc av la : Nat) (q : QQ) (G : List UInt8), j ≤ un ∧ i = .int .i64 (j : Nat) ∧ G.length = 600 ∧ wr.heap[w1.heap.size]? = some (.cells #[.slice am 600 cm] 26 (0, 0)) ∧ wr.heap[w1.heap.size + 1]? = some (.cells #[.int .i64 0, .int .i64 8, .slice fm fn fc, .int .u16 (av : Nat), .int .u16 (la : Nat), .slice xm xn xc] 30 (0, 0)) ∧ OwnB 0 wr (.slice am 600 cm) G ∧ HQ wr fm fn fc xm xn xc av la q ∧ Below w.heap.size w wr) (fun i _ => un - (intOf i).toNat)
  case atStart => exact ⟨0, _, _, _, _, _, _, _, _, av, la, _, G, Nat.zero_le _, rfl, HG.out, Rm.out, Rq.out, Am.out, Qm.out, BW.out⟩
  case round =>
   clear Rm Rq Am Qm BW HG HF
   clear am cm fm fn fc xm xn xc av la q G
   obtain ⟨j, am, cm, fm, fn, fc, xm, xn, xc, av, la, q, G, hj, rfl, hG, hm, hq, ho, hi, hb⟩ := hrel
   have Rm := Lib.hid hm
   have Rq := Lib.hid hq
   have Am := Lib.hid ho
   have Qm := Lib.hid hi
   have BW := Lib.hid hb
   have HG := Lib.hid hG
   clear hm hq ho hi hb hG
   rcases Nat.lt_or_ge j un with hlt | hge
   · obtain ⟨bu, ou, rfl, hu⟩ := HU.out.at (by rw [← HUN.out]; omega)
     obtain ⟨bj, oj, rfl, hz⟩ := HJ.out.at (by rw [← HJN.out]; have := HC3.out; omega)
     obtain ⟨k1, k2, k3, k4⟩ := hu j (by rw [← HUN.out]; exact hlt)
     obtain ⟨k5, k6⟩ := hz j (by rw [← HJN.out]; have := HC3.out; omega)
     obtain ⟨y0, hy0⟩ : ∃ x, (t.getD j (0, 0)).1 = x := ⟨_, rfl⟩
     obtain ⟨y1, hy1⟩ : ∃ x, (t.getD j (0, 0)).2 = x := ⟨_, rfl⟩
     obtain ⟨z, hzz⟩ : ∃ x, s.getD j 0 = x := ⟨_, rfl⟩
     rw [hy0] at k1 k3
     rw [hy1] at k2 k4
     rw [hzz] at k5 k6
     have HT := Lib.hid (show ∀ W, Below w.heap.size w W → W.cell? ⟨bu, ou + j * 2, none⟩ = some (.int .u32 (y0 : Nat)) ∧ W.cell? ⟨bu, ou + j * 2 + 1, none⟩ = some (.int .u32 (y1 : Nat)) ∧ W.cell? ⟨bj, oj + j, none⟩ = some (.int .u16 (z : Nat)) from fun W hW => ⟨by rw [hW.cell (World.block_lt_of_cell? w _ k1)]; exact k1, by rw [hW.cell (World.block_lt_of_cell? w _ k2)]; exact k2, by rw [hW.cell (World.block_lt_of_cell? w _ k5)]; exact k5⟩)
     have HY0 := Lib.hid k3
     have HY1 := Lib.hid k4
     have HZ := Lib.hid k6
     have HLT := Lib.hid (show j < un ∧ j < jn by have := HC3.out; omega)
     have HLA := Lib.hid Qm.out.few.2.2.2.2
     obtain ⟨G2, hG2⟩ : ∃ x, returnX G 0 8 la y0 y1 = x := ⟨_, rfl⟩
     have HG2 := Lib.hid hG2
     have HN2 := Lib.hid (show G2.length = 600 by rw [← hG2, returnX_length]; exact HG.out)
     clear hu hz k1 k2 k3 k4 k5 k6 hy0 hy1 hzz hG2
     go_wp2_with fail
     obtain ⟨wx, hwx⟩ : ∃ x, x = wr := ⟨_, rfl⟩
     rw [← hwx] at Rm Rq Am Qm BW ⊢
     clear hwx
     refine wp_region_rec (X := QueHoA) (by kernel_rfl) (by kernel_rfl) (fun x => #[x.b0, x.b1, x.b2, x.b3, x.b4, x.b5, x.b6, x.b7, x.b8, x.b9, x.b10, x.b11]) (fun x => { tmps := List.toArray ((.slice va vn vc) :: (.slice (some ⟨bu, ou, none⟩) un uc) :: (.slice (some ⟨bj, oj, none⟩) jn jc) :: undef :: undef :: undef :: u6 :: (.pointer (some ⟨w1.heap.size, 0, none⟩)) :: (.pointer (some ⟨w1.heap.size + 1, 0, none⟩)) :: (.int .i64 0) :: (.int .i64 (vn : Nat)) :: u11 :: (.int .i64 (j : Nat)) :: u13 :: u14 :: u15 :: u16 :: u17 :: (.slice va vn vc) :: (.int .i64 (vn : Nat)) :: (.bool false) :: (.bool false) :: (.slice (some ⟨bu, ou, none⟩) un uc) :: (.int .i64 (un : Nat)) :: (.bool false) :: (.bool false) :: (.bool false) :: (.slice (some ⟨bj, oj, none⟩) jn jc) :: (.int .i64 (jn : Nat)) :: (.slice (some ⟨bu, ou, none⟩) un uc) :: (.int .i64 (un : Nat)) :: (.bool false) :: (.bool false) :: undef :: (.tuple #[.agg #[.slice aa 600 ca], .agg #[.int .i64 0, .int .i64 8, .slice fa0 8 fc0, .int .u16 0, .int .u16 0, .slice xa0 0 xc0], .int .i64 0]) :: (.slice (some ⟨w.heap.size, 0, none⟩) 600 600) :: (.agg #[.slice (some ⟨w.heap.size, 0, none⟩) 600 600]) :: (.tuple #[.agg #[.slice aa 600 ca], .agg #[.int .i64 0, .int .i64 8, .slice fa0 8 fc0, .int .u16 0, .int .u16 0, .slice xa0 0 xc0], .int .i64 0]) :: (.agg #[.slice aa 600 ca]) :: (.agg #[.int .i64 0, .int .i64 8, .slice fa0 8 fc0, .int .u16 0, .int .u16 0, .slice xa0 0 xc0]) :: (.int .i64 0) :: (.int .i64 0) :: (.bool false) :: (.bool false) :: (.pointer (some ⟨w1.heap.size, 0, none⟩)) :: (.slice aa 600 ca) :: (.int .i64 600) :: (.bool false) :: (.bool false) :: (.int .i64 (vn : Nat)) :: (.slice va vn vc) :: (.int .i64 (vn : Nat)) :: (.bool false) :: u53 :: u54 :: u55 :: u56 :: u57 :: u58 :: u59 :: u60 :: u61 :: u62 :: u63 :: u64 :: u65 :: u66 :: u67 :: u68 :: u69 :: u70 :: u71 :: u72 :: u73 :: (.int .i64 (j : Nat)) :: (.slice (some ⟨bu, ou, none⟩) un uc) :: (.int .i64 (un : Nat)) :: (.bool true) :: u78 :: u79 :: x.s80 :: x.s81 :: x.s82 :: x.s83 :: x.s84 :: x.s85 :: x.s86 :: x.s87 :: x.s88 :: x.s89 :: x.s90 :: u91 :: u92 :: u93 :: u94 :: u95 :: u96 :: u97 :: u98 :: u99 :: u100 :: u101 :: u102 :: u103 :: u104 :: u105 :: u106 :: u107 :: u108 :: u109 :: u110 :: u111 :: u112 :: u113 :: u114 :: u115 :: u116 :: u117 :: u118 :: u119 :: u120 :: u121 :: u122 :: u123 :: u124 :: u125 :: u126 :: u127 :: u128 :: u129 :: u130 :: u131 :: u132 :: u133 :: u134 :: u135 :: u136 :: u137 :: u138 :: u139 :: u140 :: u141 :: u142 :: u143 :: u144 :: u145 :: u146 :: u147 :: u148 :: u149 :: u150 :: u151 :: u152 :: u153 :: u154 :: u155 :: u156 :: u157 :: u158 :: u159 :: u160 :: u161 :: u162 :: u163 :: u164 :: u165 :: u166 :: u167 :: u168 :: u169 :: u170 :: u171 :: u172 :: u173 :: u174 :: u175 :: undef :: []), defers := [] }) (fun x W => (x.b0 = true → x.s81 = .agg #[.slice am 600 cm]) ∧ (x.b1 = true → x.s82 = .pointer (some ⟨w1.heap.size + 1, 4, none⟩)) ∧ (x.b2 = true → x.s83 = .int .u16 (la : Nat)) ∧ (x.b3 = true → x.s84 = .slice (some ⟨bu, ou, none⟩) un uc) ∧ (x.b4 = true → x.s85 = .int .i64 (j : Nat)) ∧ (x.b5 = true → x.s86 = .pointer (some ⟨bu, ou + j * 2, none⟩)) ∧ (x.b6 = true → x.s87 = .agg #[.int .u32 (y0 : Nat), .int .u32 (y1 : Nat)]) ∧ (x.b8 = true → x.s80 = x.s88) ∧ (x.b10 = true → x.s90 = .int .i64 0) ∧ (x.b8 = true → x.b7 = true) ∧ (x.b11 = true → x.b0 = true ∧ x.b2 = true ∧ x.b6 = true ∧ x.b7 = true) ∧ (x.b9 = true → x.b7 = true) ∧ (x.b11 = false → W.heap[w1.heap.size]? = some (.cells #[.slice am 600 cm] 26 (0, 0))) ∧ (W.heap[w1.heap.size + 1]? = some (.cells #[.int .i64 0, .int .i64 8, .slice fm fn fc, .int .u16 (av : Nat), .int .u16 (la : Nat), .slice xm xn xc] 30 (0, 0))) ∧ (x.b11 = false → Below wx.heap.size wx W) ∧ (x.b7 = true → ∃ ra rc, x.s88 = .tuple #[.agg #[.slice ra 600 rc], .int .i64 0] ∧ OwnB 0 W (.slice ra 600 rc) G2) ∧ (x.b9 = true → ∃ ra rc, x.s89 = .agg #[.slice ra 600 rc] ∧ OwnB 0 W (.slice ra 600 rc) G2) ∧ (x.b11 = true → ∃ ra rc w6, W = w6.setCell ⟨w1.heap.size, 0, none⟩ (.slice ra 600 rc) ∧ Below wx.heap.size wx w6 ∧ OwnB 0 w6 (.slice ra 600 rc) G2)) ⟨false, false, false, false, false, false, false, false, false, false, false, false, u81, u82, u83, u84, u85, u86, u87, u88, u80, u89, u90⟩ rfl rfl ⟨(fun h => by cases h), (fun h => by cases h), (fun h => by cases h), (fun h => by cases h), (fun h => by cases h), (fun h => by cases h), (fun h => by cases h), (fun h => by cases h), (fun h => by cases h), (fun h => by cases h), (fun h => by cases h), (fun h => by cases h), (fun _ => Rm.out), Rq.out, (fun _ => (Below.refl _ _).drew), (fun h => by cases h), (fun h => by cases h), (fun h => by cases h)⟩ (fun _ => rfl) ?hstep ?hdone
     case hstep =>
      rintro ⟨b0, b1, b2, b3, b4, b5, b6, b7, b8, b9, b10, b11, s81, s82, s83, s84, s85, s86, s87, s88, s80, s89, s90⟩ W hI i hi
      dsimp only at hI hi ⊢
      have HI := Lib.hid hI
      clear hI
      rw [Region.ready, List.mem_filter, List.mem_range] at hi
      obtain ⟨hlt, hp⟩ := hi
      have hi7 : i = 0 ∨ i = 1 ∨ i = 2 ∨ i = 3 ∨ i = 4 ∨ i = 5 ∨ i = 6 ∨ i = 7 ∨ i = 8 ∨ i = 9 ∨ i = 10 ∨ i = 11 := by simp at hlt; omega
      clear hlt
      rcases hi7 with rfl | rfl | rfl | rfl | rfl | rfl | rfl | rfl | rfl | rfl | rfl | rfl
      all_goals simp [Region.binds] at hp
      · obtain rfl : b0 = false := by revert hp; cases b0 <;> simp
        clear hp
        refine inv_op (o := ⟨some 81, _, _, _, _, _⟩) rfl (fun K' hK' => ?_)
        have gi11 := HI.out.2.2.2.2.2.2.2.2.2.2.1
        have rM0 := HI.out.2.2.2.2.2.2.2.2.2.2.2.2.1
        have hbf11 : b11 = false := by cases b11 with | false => rfl | true => exact absurd ((gi11 rfl).1) (by decide)
        subst hbf11
        obtain ⟨hc0, _⟩ := at_cell (rM0 rfl) 0 _ rfl
        go_simp
        obtain ⟨h0, h1, h2, h3, h4, h5, h6, h8, h10, gi8, gi11, gi9, rM0, rQ, gB, gP, gX, gF⟩ := HI.out
        exact hK'.out _ _ ⟨.mk .., rfl, rfl, (fun _ => rfl), h1, h2, h3, h4, h5, h6, h8, h10, gi8, (fun e => by cases e), gi9, rM0, rQ, gB, gP, gX, (fun e => by cases e)⟩
      · obtain rfl : b1 = false := by revert hp; cases b1 <;> simp
        clear hp
        refine inv_op (o := ⟨some 82, _, _, _, _, _⟩) rfl (fun K' hK' => ?_)
        go_simp
        exact hK'.out _ _ ⟨.mk .., rfl, rfl, Nxt (Upd (fun _ => rfl)) HI.out⟩
      · obtain ⟨rfl, e1⟩ : b2 = false ∧ b1 = true := by revert hp; cases b2 <;> cases b1 <;> simp
        clear hp
        obtain rfl := (HI.out.2.1) e1
        refine inv_op (o := ⟨some 83, _, _, _, _, _⟩) rfl (fun K' hK' => ?_)
        have gi11 := HI.out.2.2.2.2.2.2.2.2.2.2.1
        have rQ := HI.out.2.2.2.2.2.2.2.2.2.2.2.2.2.1
        have hbf11 : b11 = false := by cases b11 with | false => rfl | true => exact absurd ((gi11 rfl).2.1) (by decide)
        subst hbf11
        obtain ⟨hc4, _⟩ := at_cell rQ 4 _ rfl
        go_simp
        obtain ⟨h0, h1, h2, h3, h4, h5, h6, h8, h10, gi8, gi11, gi9, rM0, rQ, gB, gP, gX, gF⟩ := HI.out
        exact hK'.out _ _ ⟨.mk .., rfl, rfl, h0, h1, (fun _ => rfl), h3, h4, h5, h6, h8, h10, gi8, (fun e => by cases e), gi9, rM0, rQ, gB, gP, gX, (fun e => by cases e)⟩
      · obtain rfl : b3 = false := by revert hp; cases b3 <;> simp
        clear hp
        refine inv_op (o := ⟨some 84, _, _, _, _, _⟩) rfl (fun K' hK' => ?_)
        go_simp
        exact hK'.out _ _ ⟨.mk .., rfl, rfl, Nxt (Nxt (Nxt (Upd (fun _ => rfl)))) HI.out⟩
      · obtain rfl : b4 = false := by revert hp; cases b4 <;> simp
        clear hp
        refine inv_op (o := ⟨some 85, _, _, _, _, _⟩) rfl (fun K' hK' => ?_)
        go_simp
        exact hK'.out _ _ ⟨.mk .., rfl, rfl, Nx4 (Upd (fun _ => rfl)) HI.out⟩
      · obtain ⟨rfl, e3, e4⟩ : b5 = false ∧ b3 = true ∧ b4 = true := by revert hp; cases b5 <;> cases b3 <;> cases b4 <;> simp
        clear hp
        obtain rfl := (HI.out.2.2.2.1) e3
        obtain rfl := (HI.out.2.2.2.2.1) e4
        refine inv_op (o := ⟨some 86, _, _, _, _, _⟩) rfl (fun K' hK' => ?_)
        have hlt1 := HLT.out.1
        have hlt2 := HLT.out.2
        go_simp
        exact hK'.out _ _ ⟨.mk .., rfl, rfl, Nxt (Nx4 (Upd (fun _ => rfl))) HI.out⟩
      · obtain ⟨rfl, e5⟩ : b6 = false ∧ b5 = true := by revert hp; cases b6 <;> cases b5 <;> simp
        clear hp
        obtain rfl := (HI.out.2.2.2.2.2.1) e5
        refine inv_op (o := ⟨some 87, _, _, _, _, _⟩) rfl (fun K' hK' => ?_)
        have gi11 := HI.out.2.2.2.2.2.2.2.2.2.2.1
        have gB := HI.out.2.2.2.2.2.2.2.2.2.2.2.2.2.2.1
        have hbf11 : b11 = false := by cases b11 with | false => rfl | true => exact absurd ((gi11 rfl).2.2.1) (by decide)
        subst hbf11
        have ht := HT.out W (BW.out.trans ((gB rfl).mono BW.out.size))
        have t1 := ht.1
        have t2 := ht.2.1
        clear ht
        go_simp
        obtain ⟨h0, h1, h2, h3, h4, h5, h6, h8, h10, gi8, gi11, gi9, rM0, rQ, gB, gP, gX, gF⟩ := HI.out
        exact hK'.out _ _ ⟨.mk .., rfl, rfl, h0, h1, h2, h3, h4, h5, (fun _ => rfl), h8, h10, gi8, (fun e => by cases e), gi9, rM0, rQ, gB, gP, gX, (fun e => by cases e)⟩
      · have hn7 : b7 = false := by revert hp; cases b7 <;> simp
        have e0 : b0 = true := by revert hp; cases b0 <;> simp
        have e2 : b2 = true := by revert hp; cases b2 <;> simp
        have e6 : b6 = true := by revert hp; cases b6 <;> simp
        clear hp
        obtain rfl := (HI.out.1) e0
        obtain rfl := (HI.out.2.2.1) e2
        obtain rfl := (HI.out.2.2.2.2.2.2.1) e6
        subst hn7
        refine inv_op (o := ⟨some 88, _, _, _, _, _⟩) rfl (fun K' hK' => ?_)
        have gi8 := HI.out.2.2.2.2.2.2.2.2.2.1
        have gi11 := HI.out.2.2.2.2.2.2.2.2.2.2.1
        have gi9 := HI.out.2.2.2.2.2.2.2.2.2.2.2.1
        have gB := HI.out.2.2.2.2.2.2.2.2.2.2.2.2.2.2.1
        have hbf8 : b8 = false := by cases b8 with | false => rfl | true => exact absurd ((gi8 rfl)) (by decide)
        subst hbf8
        have hbf11 : b11 = false := by cases b11 with | false => rfl | true => exact absurd ((gi11 rfl).2.2.2) (by decide)
        subst hbf11
        have hbf9 : b9 = false := by cases b9 with | false => rfl | true => exact absurd ((gi9 rfl)) (by decide)
        subst hbf9
        go_simp
        refine (retref8_this _ _ la HLA.out y0 y1 HY0.out HY1.out W (Am.out.below (gB rfl)) HG.out G2 HG2.out).mono ?_
        rintro e w2 ⟨ra, rc, rfl, hr, bn⟩
        obtain ⟨h0, h1, h2, h3, h4, h5, h6, h8, h10, gi8, gi11, gi9, rM0, rQ, gB, gP, gX, gF⟩ := HI.out
        exact hK'.out _ _ ⟨.mk .., rfl, rfl, h0, h1, h2, h3, h4, h5, h6, (fun e => by cases ((gi8 e))), h10, (fun e => by cases e), (fun e => by cases e), (fun e => by cases e), (fun e => row_keep (rM0 e) bn), (row_keep rQ bn), (fun e => (gB e).trans (bn.mono (gB e).size)), (fun _ => ⟨ra, rc, rfl, hr⟩), (fun e => by cases e), (fun e => by cases e)⟩
      · obtain ⟨rfl, e7⟩ : b8 = false ∧ b7 = true := by revert hp; cases b8 <;> cases b7 <;> simp
        clear hp
        refine inv_op (o := ⟨some 80, _, _, _, _, _⟩) rfl (fun K' hK' => ?_)
        go_simp
        exact hK'.out _ _ ⟨.mk .., rfl, rfl, Nxt (Nx4 (Nx4 (Upd (fun _ => e7)))) (Nxt (Nxt (Nxt (Nx4 (Upd (fun _ => rfl))))) HI.out)⟩
      · obtain ⟨rfl, e8⟩ : b9 = false ∧ b8 = true := by revert hp; cases b9 <;> cases b8 <;> simp
        clear hp
        obtain rfl := (HI.out.2.2.2.2.2.2.2.1) e8
        refine inv_op (o := ⟨some 89, _, _, _, _, _⟩) rfl (fun K' hK' => ?_)
        have gi8 := HI.out.2.2.2.2.2.2.2.2.2.1
        have gP := HI.out.2.2.2.2.2.2.2.2.2.2.2.2.2.2.2.1
        obtain ⟨ra, rc, rfl, hp⟩ := gP ((gi8 e8))
        go_simp
        obtain ⟨h0, h1, h2, h3, h4, h5, h6, h8, h10, gi8, gi11, gi9, rM0, rQ, gB, gP, gX, gF⟩ := HI.out
        exact hK'.out _ _ ⟨.mk .., rfl, rfl, h0, h1, h2, h3, h4, h5, h6, h8, h10, gi8, gi11, (fun _ => (gi8 e8)), rM0, rQ, gB, (fun _ => ⟨ra, rc, rfl, hp⟩), (fun _ => ⟨ra, rc, rfl, hp⟩), gF⟩
      · obtain ⟨rfl, e8⟩ : b10 = false ∧ b8 = true := by revert hp; cases b10 <;> cases b8 <;> simp
        clear hp
        obtain rfl := (HI.out.2.2.2.2.2.2.2.1) e8
        refine inv_op (o := ⟨some 90, _, _, _, _, _⟩) rfl (fun K' hK' => ?_)
        have gi8 := HI.out.2.2.2.2.2.2.2.2.2.1
        have gP := HI.out.2.2.2.2.2.2.2.2.2.2.2.2.2.2.2.1
        obtain ⟨ra, rc, rfl, hp⟩ := gP ((gi8 e8))
        go_simp
        exact hK'.out _ _ ⟨.mk .., rfl, rfl, Nxt (Nxt (Nxt (Nx4 (Nx4 (Nx4 (Upd (fun _ => ⟨ra, rc, rfl, hp⟩))))))) (Nx4 (Nx4 (Upd (fun _ => rfl))) HI.out)⟩
      · have hn11 : b11 = false := by revert hp; cases b11 <;> simp
        have e9 : b9 = true := by revert hp; cases b9 <;> simp
        have e7 : b7 = true := by revert hp; cases b7 <;> simp
        have e0 : b0 = true := by revert hp; cases b0 <;> simp
        have e2 : b2 = true := by revert hp; cases b2 <;> simp
        have e6 : b6 = true := by revert hp; cases b6 <;> simp
        clear hp
        subst hn11
        refine inv_op (o := ⟨none, _, _, _, _, _⟩) rfl (fun K' hK' => ?_)
        have rM0 := HI.out.2.2.2.2.2.2.2.2.2.2.2.2.1
        have gB := HI.out.2.2.2.2.2.2.2.2.2.2.2.2.2.2.1
        have gX := HI.out.2.2.2.2.2.2.2.2.2.2.2.2.2.2.2.2.1
        obtain ⟨ra, rc, rfl, hx⟩ := gX e9
        have hrow := rM0 rfl
        have hgb := gB rfl
        obtain ⟨hc, hz⟩ := at_cell hrow 0 _ rfl
        have hlx := (Array.getElem?_eq_some_iff.1 hrow).1
        go_simp
        obtain ⟨h0, h1, h2, h3, h4, h5, h6, h8, h10, gi8, gi11, gi9, rM0, rQ, gB, gP, gX, gF⟩ := HI.out
        exact hK'.out _ _ ⟨.mk .., rfl, rfl, h0, h1, h2, h3, h4, h5, h6, h8, h10, gi8, (fun _ => ⟨e0, e2, e6, e7⟩), gi9, (fun e => by cases e), (one_other rQ ⟨w1.heap.size, 0, none⟩ (.slice ra 600 rc) (show w1.heap.size ≠ w1.heap.size + 1 by omega)), (fun e => by cases e), (fun e => by obtain ⟨y0, y1, h1, h2⟩ := gP e; exact ⟨y0, y1, h1, h2.stay hrow (by decide) 0 _⟩), (fun _ => ⟨ra, rc, rfl, hx.stay hrow (by decide) 0 _⟩), (fun _ => ⟨ra, rc, W, rfl, hgb, hx⟩)⟩
     case hdone =>
      rintro ⟨b0, b1, b2, b3, b4, b5, b6, b7, b8, b9, b10, b11, s81, s82, s83, s84, s85, s86, s87, s88, s80, s89, s90⟩ W hI hall
      dsimp only at hI hall ⊢
      have HI := Lib.hid hI
      clear hI
      obtain rfl : b0 = true := hall 0 (by decide)
      obtain rfl : b1 = true := hall 1 (by decide)
      obtain rfl : b2 = true := hall 2 (by decide)
      obtain rfl : b3 = true := hall 3 (by decide)
      obtain rfl : b4 = true := hall 4 (by decide)
      obtain rfl : b5 = true := hall 5 (by decide)
      obtain rfl : b6 = true := hall 6 (by decide)
      obtain rfl : b7 = true := hall 7 (by decide)
      obtain rfl : b8 = true := hall 8 (by decide)
      obtain rfl : b9 = true := hall 9 (by decide)
      obtain rfl : b10 = true := hall 10 (by decide)
      obtain rfl : b11 = true := hall 11 (by decide)
      have gF := HI.out.2.2.2.2.2.2.2.2.2.2.2.2.2.2.2.2.2
      clear HI hall
      obtain ⟨ra, rc, wb, hwb, hb, ho⟩ := gF rfl
      subst hwb
      clear gF
      clear Am
      replace Rm := Lib.hid (row_keep Rm.out hb)
      replace Rq := Lib.hid (row_keep Rq.out hb)
      replace Qm := Lib.hid (Qm.out.below hb)
      replace BW := Lib.hid (BW.out.trans (hb.mono BW.out.size))
      have Am := Lib.hid ho
      clear ho hb
      have Rqn := Lib.hid (one_other Rq.out ⟨w1.heap.size, 0, none⟩ (.slice ra 600 rc) ((show w1.heap.size ≠ w1.heap.size + 1 by omega)))
      have Qmn := Lib.hid (Qm.out.stay Rm.out (by decide) (by decide) 0 (.slice ra 600 rc))
      have BWn := Lib.hid (BW.out.setCell (p := ⟨w1.heap.size, 0, none⟩) (HS1.out) (.slice ra 600 rc))
      have Amn := Lib.hid (Am.out.stay Rm.out (by decide) 0 (.slice ra 600 rc))
      replace Rm := Lib.hid (row_put Rm.out 0 (.slice ra 600 rc))
      replace Rq := Rqn
      replace Qm := Qmn
      replace BW := BWn
      replace Am := Amn
      try clear Rqn Qmn BWn Amn
      obtain ⟨wy, hwy⟩ : ∃ x, x = (wb.setCell ⟨w1.heap.size, 0, none⟩ (.slice ra 600 rc)) := ⟨_, rfl⟩
      rw [← hwy] at Rm Rq Qm BW Am ⊢
      clear hwy
      obtain ⟨_, _, ht⟩ := HT.out _ BW.out
      have hd1 := HLT.out.1
      have hd2 := HLT.out.2
      by_cases h8 : z % 8 = 0
      · have h9 : (((z : Nat) : Int) % 8) = 0 := by omega
        go_wp2_with fail
        clear ht h8 h9
        obtain ⟨G3, hG3⟩ : ∃ x, returnX G2 0 8 z y0 y1 = x := ⟨_, rfl⟩
        have HG3 := Lib.hid hG3
        have HN3 := Lib.hid (show G3.length = 600 by rw [← hG3, returnX_length]; exact HN2.out)
        clear hG3 hd1 hd2
        refine wp_region_rec (X := QueHoB) (by kernel_rfl) (by kernel_rfl) (fun x => #[x.b0, x.b1, x.b2, x.b3, x.b4, x.b5, x.b6, x.b7, x.b8, x.b9, x.b10, x.b11, x.b12, x.b13]) (fun x => { tmps := List.toArray ((.slice va vn vc) :: (.slice (some ⟨bu, ou, none⟩) un uc) :: (.slice (some ⟨bj, oj, none⟩) jn jc) :: undef :: undef :: undef :: u6 :: (.pointer (some ⟨w1.heap.size, 0, none⟩)) :: (.pointer (some ⟨w1.heap.size + 1, 0, none⟩)) :: (.int .i64 0) :: (.int .i64 (vn : Nat)) :: u11 :: (.int .i64 (j : Nat)) :: u13 :: u14 :: u15 :: u16 :: u17 :: (.slice va vn vc) :: (.int .i64 (vn : Nat)) :: (.bool false) :: (.bool false) :: (.slice (some ⟨bu, ou, none⟩) un uc) :: (.int .i64 (un : Nat)) :: (.bool false) :: (.bool false) :: (.bool false) :: (.slice (some ⟨bj, oj, none⟩) jn jc) :: (.int .i64 (jn : Nat)) :: (.slice (some ⟨bu, ou, none⟩) un uc) :: (.int .i64 (un : Nat)) :: (.bool false) :: (.bool false) :: undef :: (.tuple #[.agg #[.slice aa 600 ca], .agg #[.int .i64 0, .int .i64 8, .slice fa0 8 fc0, .int .u16 0, .int .u16 0, .slice xa0 0 xc0], .int .i64 0]) :: (.slice (some ⟨w.heap.size, 0, none⟩) 600 600) :: (.agg #[.slice (some ⟨w.heap.size, 0, none⟩) 600 600]) :: (.tuple #[.agg #[.slice aa 600 ca], .agg #[.int .i64 0, .int .i64 8, .slice fa0 8 fc0, .int .u16 0, .int .u16 0, .slice xa0 0 xc0], .int .i64 0]) :: (.agg #[.slice aa 600 ca]) :: (.agg #[.int .i64 0, .int .i64 8, .slice fa0 8 fc0, .int .u16 0, .int .u16 0, .slice xa0 0 xc0]) :: (.int .i64 0) :: (.int .i64 0) :: (.bool false) :: (.bool false) :: (.pointer (some ⟨w1.heap.size, 0, none⟩)) :: (.slice aa 600 ca) :: (.int .i64 600) :: (.bool false) :: (.bool false) :: (.int .i64 (vn : Nat)) :: (.slice va vn vc) :: (.int .i64 (vn : Nat)) :: (.bool false) :: u53 :: u54 :: u55 :: u56 :: u57 :: u58 :: u59 :: u60 :: u61 :: u62 :: u63 :: u64 :: u65 :: u66 :: u67 :: u68 :: u69 :: u70 :: u71 :: u72 :: u73 :: (.int .i64 (j : Nat)) :: (.slice (some ⟨bu, ou, none⟩) un uc) :: (.int .i64 (un : Nat)) :: (.bool true) :: u78 :: u79 :: s80 :: s81 :: s82 :: s83 :: s84 :: s85 :: s86 :: s87 :: s88 :: s89 :: s90 :: (.slice (some ⟨bj, oj, none⟩) jn jc) :: (.int .i64 (j : Nat)) :: (.pointer (some ⟨bj, oj + j, none⟩)) :: (.int .u16 (z : Nat)) :: (.int .u16 ((z : Nat) % 8)) :: (.bool true) :: x.s97 :: x.s98 :: x.s99 :: x.s100 :: x.s101 :: x.s102 :: x.s103 :: x.s104 :: x.s105 :: x.s106 :: x.s107 :: x.s108 :: x.s109 :: u110 :: u111 :: u112 :: u113 :: u114 :: u115 :: u116 :: u117 :: u118 :: u119 :: u120 :: u121 :: u122 :: u123 :: u124 :: u125 :: u126 :: u127 :: u128 :: u129 :: u130 :: u131 :: u132 :: u133 :: u134 :: u135 :: u136 :: u137 :: u138 :: u139 :: u140 :: u141 :: u142 :: u143 :: u144 :: u145 :: u146 :: u147 :: u148 :: u149 :: u150 :: u151 :: u152 :: u153 :: u154 :: u155 :: u156 :: u157 :: u158 :: u159 :: u160 :: u161 :: u162 :: u163 :: u164 :: u165 :: u166 :: u167 :: u168 :: u169 :: u170 :: u171 :: u172 :: u173 :: u174 :: u175 :: undef :: []), defers := [] }) (fun x W => (x.b0 = true → x.s98 = .agg #[.slice ra 600 rc]) ∧ (x.b1 = true → x.s99 = .slice (some ⟨bj, oj, none⟩) jn jc) ∧ (x.b2 = true → x.s100 = .int .i64 (j : Nat)) ∧ (x.b3 = true → x.s101 = .pointer (some ⟨bj, oj + j, none⟩)) ∧ (x.b4 = true → x.s102 = .int .u16 (z : Nat)) ∧ (x.b5 = true → x.s103 = .slice (some ⟨bu, ou, none⟩) un uc) ∧ (x.b6 = true → x.s104 = .int .i64 (j : Nat)) ∧ (x.b7 = true → x.s105 = .pointer (some ⟨bu, ou + j * 2, none⟩)) ∧ (x.b8 = true → x.s106 = .agg #[.int .u32 (y0 : Nat), .int .u32 (y1 : Nat)]) ∧ (x.b10 = true → x.s97 = x.s107) ∧ (x.b12 = true → x.s109 = .int .i64 0) ∧ (x.b10 = true → x.b9 = true) ∧ (x.b13 = true → x.b0 = true ∧ x.b4 = true ∧ x.b8 = true ∧ x.b9 = true) ∧ (x.b11 = true → x.b9 = true) ∧ (x.b13 = false → W.heap[w1.heap.size]? = some (.cells #[.slice ra 600 rc] 26 (0, 0))) ∧ (W.heap[w1.heap.size + 1]? = some (.cells #[.int .i64 0, .int .i64 8, .slice fm fn fc, .int .u16 (av : Nat), .int .u16 (la : Nat), .slice xm xn xc] 30 (0, 0))) ∧ (x.b13 = false → Below wy.heap.size wy W) ∧ (x.b9 = true → ∃ ra rc, x.s107 = .tuple #[.agg #[.slice ra 600 rc], .int .i64 0] ∧ OwnB 0 W (.slice ra 600 rc) G3) ∧ (x.b11 = true → ∃ ra rc, x.s108 = .agg #[.slice ra 600 rc] ∧ OwnB 0 W (.slice ra 600 rc) G3) ∧ (x.b13 = true → ∃ ra rc w6, W = w6.setCell ⟨w1.heap.size, 0, none⟩ (.slice ra 600 rc) ∧ Below wy.heap.size wy w6 ∧ OwnB 0 w6 (.slice ra 600 rc) G3)) ⟨false, false, false, false, false, false, false, false, false, false, false, false, false, false, u98, u99, u100, u101, u102, u103, u104, u105, u106, u107, u97, u108, u109⟩ rfl rfl ⟨(fun h => by cases h), (fun h => by cases h), (fun h => by cases h), (fun h => by cases h), (fun h => by cases h), (fun h => by cases h), (fun h => by cases h), (fun h => by cases h), (fun h => by cases h), (fun h => by cases h), (fun h => by cases h), (fun h => by cases h), (fun h => by cases h), (fun h => by cases h), (fun _ => Rm.out), Rq.out, (fun _ => (Below.refl _ _).drew), (fun h => by cases h), (fun h => by cases h), (fun h => by cases h)⟩ (fun _ => rfl) ?hstep ?hdone
        case hstep =>
         rintro ⟨b0, b1, b2, b3, b4, b5, b6, b7, b8, b9, b10, b11, b12, b13, s98, s99, s100, s101, s102, s103, s104, s105, s106, s107, s97, s108, s109⟩ W hI i hi
         dsimp only at hI hi ⊢
         have HI := Lib.hid hI
         clear hI
         rw [Region.ready, List.mem_filter, List.mem_range] at hi
         obtain ⟨hlt, hp⟩ := hi
         have hi7 : i = 0 ∨ i = 1 ∨ i = 2 ∨ i = 3 ∨ i = 4 ∨ i = 5 ∨ i = 6 ∨ i = 7 ∨ i = 8 ∨ i = 9 ∨ i = 10 ∨ i = 11 ∨ i = 12 ∨ i = 13 := by simp at hlt; omega
         clear hlt
         rcases hi7 with rfl | rfl | rfl | rfl | rfl | rfl | rfl | rfl | rfl | rfl | rfl | rfl | rfl | rfl
         all_goals simp [Region.binds] at hp
         · obtain rfl : b0 = false := by revert hp; cases b0 <;> simp
           clear hp
           refine inv_op (o := ⟨some 98, _, _, _, _, _⟩) rfl (fun K' hK' => ?_)
           have gi13 := HI.out.2.2.2.2.2.2.2.2.2.2.2.2.1
           have rM0 := HI.out.2.2.2.2.2.2.2.2.2.2.2.2.2.2.1
           have hbf13 : b13 = false := by cases b13 with | false => rfl | true => exact absurd ((gi13 rfl).1) (by decide)
           subst hbf13
           obtain ⟨hc0, _⟩ := at_cell (rM0 rfl) 0 _ rfl
           go_simp
           obtain ⟨h0, h1, h2, h3, h4, h5, h6, h7, h8, h10, h12, gi10, gi13, gi11, rM0, rQ, gB, gP, gX, gF⟩ := HI.out
           exact hK'.out _ _ ⟨.mk .., rfl, rfl, (fun _ => rfl), h1, h2, h3, h4, h5, h6, h7, h8, h10, h12, gi10, (fun e => by cases e), gi11, rM0, rQ, gB, gP, gX, (fun e => by cases e)⟩
         · obtain rfl : b1 = false := by revert hp; cases b1 <;> simp
           clear hp
           refine inv_op (o := ⟨some 99, _, _, _, _, _⟩) rfl (fun K' hK' => ?_)
           go_simp
           exact hK'.out _ _ ⟨.mk .., rfl, rfl, Nxt (Upd (fun _ => rfl)) HI.out⟩
         · obtain rfl : b2 = false := by revert hp; cases b2 <;> simp
           clear hp
           refine inv_op (o := ⟨some 100, _, _, _, _, _⟩) rfl (fun K' hK' => ?_)
           go_simp
           exact hK'.out _ _ ⟨.mk .., rfl, rfl, Nxt (Nxt (Upd (fun _ => rfl))) HI.out⟩
         · obtain ⟨rfl, e1, e2⟩ : b3 = false ∧ b1 = true ∧ b2 = true := by revert hp; cases b3 <;> cases b1 <;> cases b2 <;> simp
           clear hp
           obtain rfl := (HI.out.2.1) e1
           obtain rfl := (HI.out.2.2.1) e2
           refine inv_op (o := ⟨some 101, _, _, _, _, _⟩) rfl (fun K' hK' => ?_)
           have hlt1 := HLT.out.1
           have hlt2 := HLT.out.2
           go_simp
           exact hK'.out _ _ ⟨.mk .., rfl, rfl, Nxt (Nxt (Nxt (Upd (fun _ => rfl)))) HI.out⟩
         · obtain ⟨rfl, e3⟩ : b4 = false ∧ b3 = true := by revert hp; cases b4 <;> cases b3 <;> simp
           clear hp
           obtain rfl := (HI.out.2.2.2.1) e3
           refine inv_op (o := ⟨some 102, _, _, _, _, _⟩) rfl (fun K' hK' => ?_)
           have gi13 := HI.out.2.2.2.2.2.2.2.2.2.2.2.2.1
           have gB := HI.out.2.2.2.2.2.2.2.2.2.2.2.2.2.2.2.2.1
           have hbf13 : b13 = false := by cases b13 with | false => rfl | true => exact absurd ((gi13 rfl).2.1) (by decide)
           subst hbf13
           have ht := HT.out W (BW.out.trans ((gB rfl).mono BW.out.size))
           have t1 := ht.2.2
           clear ht
           go_simp
           obtain ⟨h0, h1, h2, h3, h4, h5, h6, h7, h8, h10, h12, gi10, gi13, gi11, rM0, rQ, gB, gP, gX, gF⟩ := HI.out
           exact hK'.out _ _ ⟨.mk .., rfl, rfl, h0, h1, h2, h3, (fun _ => rfl), h5, h6, h7, h8, h10, h12, gi10, (fun e => by cases e), gi11, rM0, rQ, gB, gP, gX, (fun e => by cases e)⟩
         · obtain rfl : b5 = false := by revert hp; cases b5 <;> simp
           clear hp
           refine inv_op (o := ⟨some 103, _, _, _, _, _⟩) rfl (fun K' hK' => ?_)
           go_simp
           exact hK'.out _ _ ⟨.mk .., rfl, rfl, Nxt (Nx4 (Upd (fun _ => rfl))) HI.out⟩
         · obtain rfl : b6 = false := by revert hp; cases b6 <;> simp
           clear hp
           refine inv_op (o := ⟨some 104, _, _, _, _, _⟩) rfl (fun K' hK' => ?_)
           go_simp
           exact hK'.out _ _ ⟨.mk .., rfl, rfl, Nxt (Nxt (Nx4 (Upd (fun _ => rfl)))) HI.out⟩
         · obtain ⟨rfl, e5, e6⟩ : b7 = false ∧ b5 = true ∧ b6 = true := by revert hp; cases b7 <;> cases b5 <;> cases b6 <;> simp
           clear hp
           obtain rfl := (HI.out.2.2.2.2.2.1) e5
           obtain rfl := (HI.out.2.2.2.2.2.2.1) e6
           refine inv_op (o := ⟨some 105, _, _, _, _, _⟩) rfl (fun K' hK' => ?_)
           have hlt1 := HLT.out.1
           have hlt2 := HLT.out.2
           go_simp
           exact hK'.out _ _ ⟨.mk .., rfl, rfl, Nxt (Nxt (Nxt (Nx4 (Upd (fun _ => rfl))))) HI.out⟩
         · obtain ⟨rfl, e7⟩ : b8 = false ∧ b7 = true := by revert hp; cases b8 <;> cases b7 <;> simp
           clear hp
           obtain rfl := (HI.out.2.2.2.2.2.2.2.1) e7
           refine inv_op (o := ⟨some 106, _, _, _, _, _⟩) rfl (fun K' hK' => ?_)
           have gi13 := HI.out.2.2.2.2.2.2.2.2.2.2.2.2.1
           have gB := HI.out.2.2.2.2.2.2.2.2.2.2.2.2.2.2.2.2.1
           have hbf13 : b13 = false := by cases b13 with | false => rfl | true => exact absurd ((gi13 rfl).2.2.1) (by decide)
           subst hbf13
           have ht := HT.out W (BW.out.trans ((gB rfl).mono BW.out.size))
           have t1 := ht.1
           have t2 := ht.2.1
           clear ht
           go_simp
           obtain ⟨h0, h1, h2, h3, h4, h5, h6, h7, h8, h10, h12, gi10, gi13, gi11, rM0, rQ, gB, gP, gX, gF⟩ := HI.out
           exact hK'.out _ _ ⟨.mk .., rfl, rfl, h0, h1, h2, h3, h4, h5, h6, h7, (fun _ => rfl), h10, h12, gi10, (fun e => by cases e), gi11, rM0, rQ, gB, gP, gX, (fun e => by cases e)⟩
         · have hn9 : b9 = false := by revert hp; cases b9 <;> simp
           have e0 : b0 = true := by revert hp; cases b0 <;> simp
           have e4 : b4 = true := by revert hp; cases b4 <;> simp
           have e8 : b8 = true := by revert hp; cases b8 <;> simp
           clear hp
           obtain rfl := (HI.out.1) e0
           obtain rfl := (HI.out.2.2.2.2.1) e4
           obtain rfl := (HI.out.2.2.2.2.2.2.2.2.1) e8
           subst hn9
           refine inv_op (o := ⟨some 107, _, _, _, _, _⟩) rfl (fun K' hK' => ?_)
           have gi10 := HI.out.2.2.2.2.2.2.2.2.2.2.2.1
           have gi13 := HI.out.2.2.2.2.2.2.2.2.2.2.2.2.1
           have gi11 := HI.out.2.2.2.2.2.2.2.2.2.2.2.2.2.1
           have gB := HI.out.2.2.2.2.2.2.2.2.2.2.2.2.2.2.2.2.1
           have hbf10 : b10 = false := by cases b10 with | false => rfl | true => exact absurd ((gi10 rfl)) (by decide)
           subst hbf10
           have hbf13 : b13 = false := by cases b13 with | false => rfl | true => exact absurd ((gi13 rfl).2.2.2) (by decide)
           subst hbf13
           have hbf11 : b11 = false := by cases b11 with | false => rfl | true => exact absurd ((gi11 rfl)) (by decide)
           subst hbf11
           go_simp
           refine (retref8_this _ _ z HZ.out y0 y1 HY0.out HY1.out W (Am.out.below (gB rfl)) HN2.out G3 HG3.out).mono ?_
           rintro e w2 ⟨ra, rc, rfl, hr, bn⟩
           obtain ⟨h0, h1, h2, h3, h4, h5, h6, h7, h8, h10, h12, gi10, gi13, gi11, rM0, rQ, gB, gP, gX, gF⟩ := HI.out
           exact hK'.out _ _ ⟨.mk .., rfl, rfl, h0, h1, h2, h3, h4, h5, h6, h7, h8, (fun e => by cases ((gi10 e))), h12, (fun e => by cases e), (fun e => by cases e), (fun e => by cases e), (fun e => row_keep (rM0 e) bn), (row_keep rQ bn), (fun e => (gB e).trans (bn.mono (gB e).size)), (fun _ => ⟨ra, rc, rfl, hr⟩), (fun e => by cases e), (fun e => by cases e)⟩
         · obtain ⟨rfl, e9⟩ : b10 = false ∧ b9 = true := by revert hp; cases b10 <;> cases b9 <;> simp
           clear hp
           refine inv_op (o := ⟨some 97, _, _, _, _, _⟩) rfl (fun K' hK' => ?_)
           go_simp
           exact hK'.out _ _ ⟨.mk .., rfl, rfl, Nxt (Nxt (Nxt (Nx4 (Nx4 (Upd (fun _ => e9)))))) (Nxt (Nx4 (Nx4 (Upd (fun _ => rfl)))) HI.out)⟩
         · obtain ⟨rfl, e10⟩ : b11 = false ∧ b10 = true := by revert hp; cases b11 <;> cases b10 <;> simp
           clear hp
           obtain rfl := (HI.out.2.2.2.2.2.2.2.2.2.1) e10
           refine inv_op (o := ⟨some 108, _, _, _, _, _⟩) rfl (fun K' hK' => ?_)
           have gi10 := HI.out.2.2.2.2.2.2.2.2.2.2.2.1
           have gP := HI.out.2.2.2.2.2.2.2.2.2.2.2.2.2.2.2.2.2.1
           obtain ⟨ra, rc, rfl, hp⟩ := gP ((gi10 e10))
           go_simp
           obtain ⟨h0, h1, h2, h3, h4, h5, h6, h7, h8, h10, h12, gi10, gi13, gi11, rM0, rQ, gB, gP, gX, gF⟩ := HI.out
           exact hK'.out _ _ ⟨.mk .., rfl, rfl, h0, h1, h2, h3, h4, h5, h6, h7, h8, h10, h12, gi10, gi13, (fun _ => (gi10 e10)), rM0, rQ, gB, (fun _ => ⟨ra, rc, rfl, hp⟩), (fun _ => ⟨ra, rc, rfl, hp⟩), gF⟩
         · obtain ⟨rfl, e10⟩ : b12 = false ∧ b10 = true := by revert hp; cases b12 <;> cases b10 <;> simp
           clear hp
           obtain rfl := (HI.out.2.2.2.2.2.2.2.2.2.1) e10
           refine inv_op (o := ⟨some 109, _, _, _, _, _⟩) rfl (fun K' hK' => ?_)
           have gi10 := HI.out.2.2.2.2.2.2.2.2.2.2.2.1
           have gP := HI.out.2.2.2.2.2.2.2.2.2.2.2.2.2.2.2.2.2.1
           obtain ⟨ra, rc, rfl, hp⟩ := gP ((gi10 e10))
           go_simp
           exact hK'.out _ _ ⟨.mk .., rfl, rfl, Nxt (Nx16 (Upd (fun _ => ⟨ra, rc, rfl, hp⟩))) (Nxt (Nxt (Nx4 (Nx4 (Upd (fun _ => rfl))))) HI.out)⟩
         · have hn13 : b13 = false := by revert hp; cases b13 <;> simp
           have e11 : b11 = true := by revert hp; cases b11 <;> simp
           have e9 : b9 = true := by revert hp; cases b9 <;> simp
           have e0 : b0 = true := by revert hp; cases b0 <;> simp
           have e4 : b4 = true := by revert hp; cases b4 <;> simp
           have e8 : b8 = true := by revert hp; cases b8 <;> simp
           clear hp
           subst hn13
           refine inv_op (o := ⟨none, _, _, _, _, _⟩) rfl (fun K' hK' => ?_)
           have rM0 := HI.out.2.2.2.2.2.2.2.2.2.2.2.2.2.2.1
           have gB := HI.out.2.2.2.2.2.2.2.2.2.2.2.2.2.2.2.2.1
           have gX := HI.out.2.2.2.2.2.2.2.2.2.2.2.2.2.2.2.2.2.2.1
           obtain ⟨ra, rc, rfl, hx⟩ := gX e11
           have hrow := rM0 rfl
           have hgb := gB rfl
           obtain ⟨hc, hz⟩ := at_cell hrow 0 _ rfl
           have hlx := (Array.getElem?_eq_some_iff.1 hrow).1
           go_simp
           obtain ⟨h0, h1, h2, h3, h4, h5, h6, h7, h8, h10, h12, gi10, gi13, gi11, rM0, rQ, gB, gP, gX, gF⟩ := HI.out
           exact hK'.out _ _ ⟨.mk .., rfl, rfl, h0, h1, h2, h3, h4, h5, h6, h7, h8, h10, h12, gi10, (fun _ => ⟨e0, e4, e8, e9⟩), gi11, (fun e => by cases e), (one_other rQ ⟨w1.heap.size, 0, none⟩ (.slice ra 600 rc) (show w1.heap.size ≠ w1.heap.size + 1 by omega)), (fun e => by cases e), (fun e => by obtain ⟨y0, y1, h1, h2⟩ := gP e; exact ⟨y0, y1, h1, h2.stay hrow (by decide) 0 _⟩), (fun _ => ⟨ra, rc, rfl, hx.stay hrow (by decide) 0 _⟩), (fun _ => ⟨ra, rc, W, rfl, hgb, hx⟩)⟩
        case hdone =>
         rintro ⟨b0, b1, b2, b3, b4, b5, b6, b7, b8, b9, b10, b11, b12, b13, s98, s99, s100, s101, s102, s103, s104, s105, s106, s107, s97, s108, s109⟩ W hI hall
         dsimp only at hI hall ⊢
         have HI := Lib.hid hI
         clear hI
         obtain rfl : b0 = true := hall 0 (by decide)
         obtain rfl : b1 = true := hall 1 (by decide)
         obtain rfl : b2 = true := hall 2 (by decide)
         obtain rfl : b3 = true := hall 3 (by decide)
         obtain rfl : b4 = true := hall 4 (by decide)
         obtain rfl : b5 = true := hall 5 (by decide)
         obtain rfl : b6 = true := hall 6 (by decide)
         obtain rfl : b7 = true := hall 7 (by decide)
         obtain rfl : b8 = true := hall 8 (by decide)
         obtain rfl : b9 = true := hall 9 (by decide)
         obtain rfl : b10 = true := hall 10 (by decide)
         obtain rfl : b11 = true := hall 11 (by decide)
         obtain rfl : b12 = true := hall 12 (by decide)
         obtain rfl : b13 = true := hall 13 (by decide)
         have gF := HI.out.2.2.2.2.2.2.2.2.2.2.2.2.2.2.2.2.2.2.2
         clear HI hall
         obtain ⟨ta, tc, wb, hwb, hb, ho⟩ := gF rfl
         subst hwb
         clear gF
         clear Am
         replace Rm := Lib.hid (row_keep Rm.out hb)
         replace Rq := Lib.hid (row_keep Rq.out hb)
         replace Qm := Lib.hid (Qm.out.below hb)
         replace BW := Lib.hid (BW.out.trans (hb.mono BW.out.size))
         have Am := Lib.hid ho
         clear ho hb
         have Rqn := Lib.hid (one_other Rq.out ⟨w1.heap.size, 0, none⟩ (.slice ta 600 tc) ((show w1.heap.size ≠ w1.heap.size + 1 by omega)))
         have Qmn := Lib.hid (Qm.out.stay Rm.out (by decide) (by decide) 0 (.slice ta 600 tc))
         have BWn := Lib.hid (BW.out.setCell (p := ⟨w1.heap.size, 0, none⟩) (HS1.out) (.slice ta 600 tc))
         have Amn := Lib.hid (Am.out.stay Rm.out (by decide) 0 (.slice ta 600 tc))
         replace Rm := Lib.hid (row_put Rm.out 0 (.slice ta 600 tc))
         replace Rq := Rqn
         replace Qm := Qmn
         replace BW := BWn
         replace Am := Amn
         try clear Rqn Qmn BWn Amn
         obtain ⟨wz, hwz⟩ : ∃ x, x = (wb.setCell ⟨w1.heap.size, 0, none⟩ (.slice ta 600 tc)) := ⟨_, rfl⟩
         rw [← hwz] at Rm Rq Qm BW Am ⊢
         clear hwz
         go_wp2
         go_loopw [13] (fun i wr => ∃ (k : Nat) (fm : Option Addr) (fn fc : Nat) (xm : Option Addr) (xn xc av la : Nat) (q : QQ), k + measH G3 q ≤ 8 ∧ i = .int .i64 (k : Nat) ∧ wr.heap[w1.heap.size]? = some (.cells #[.slice ta 600 tc] 26 (0, 0)) ∧ wr.heap[w1.heap.size + 1]? = some (.cells #[.int .i64 0, .int .i64 8, .slice fm fn fc, .int .u16 (av : Nat), .int .u16 (la : Nat), .slice xm xn xc] 30 (0, 0)) ∧ OwnB 0 wr (.slice ta 600 tc) G3 ∧ HQ wr fm fn fc xm xn xc av la q ∧ Below w.heap.size w wr) (fun i _ => 10 - (intOf i).toNat)
         case atStart => exact ⟨0, _, _, _, _, _, _, av, la, _, by have := measH_le (l := G3) Qm.out.good; omega, rfl, Rm.out, Rq.out, Am.out, Qm.out, BW.out⟩
         case round =>
          clear Rm Rq Am Qm BW
          obtain ⟨k, fm, fn, fc, xm, xn, xc, av, la, q, hk, rfl, hm, hq, ho, hi, hb⟩ := hrel
          have Rm := Lib.hid hm
          have Rq := Lib.hid hq
          have Am := Lib.hid ho
          have Qm := Lib.hid hi
          have BW := Lib.hid hb
          have HK := Lib.hid hk
          clear hm hq ho hi hb hk
          obtain ⟨lRm0c18, zRm0c18⟩ := at_cell Rm.out 0 _ rfl
          clear zRm0c18
          obtain ⟨lRq0c19, zRq0c19⟩ := at_cell Rq.out 0 _ rfl
          clear zRq0c19
          obtain ⟨lRq1c20, zRq1c20⟩ := at_cell Rq.out 1 _ rfl
          clear zRq1c20
          obtain ⟨lRq2c21, zRq2c21⟩ := at_cell Rq.out 2 _ rfl
          clear zRq2c21
          obtain ⟨lRq3c22, zRq3c22⟩ := at_cell Rq.out 3 _ rfl
          clear zRq3c22
          obtain ⟨lRq4c23, zRq4c23⟩ := at_cell Rq.out 4 _ rfl
          clear zRq4c23
          obtain ⟨lRq5c24, zRq5c24⟩ := at_cell Rq.out 5 _ rfl
          clear zRq5c24
          go_wp2_with fail
          refine (poll8_this _ _ _ _ _ _ _ _ q _ G3 _ Am.out Qm.out HN3.out).mono ?_
          rintro e w3 ⟨f2, fn2, fc2, x2, xn2, xc2, la2, q2, x, y, E, rfl, hq, hE, hb⟩
          have HE := Lib.hid hE
          clear hE
          clear lRm0c18 lRq0c19 lRq1c20 lRq2c21 lRq3c22 lRq4c23 lRq5c24
          replace Rm := Lib.hid (row_keep Rm.out hb)
          replace Rq := Lib.hid (row_keep Rq.out hb)
          replace Am := Lib.hid (Am.out.below hb)
          replace Qm := Lib.hid (Qm.out.below hb)
          replace BW := Lib.hid (BW.out.trans (hb.mono BW.out.size))
          have Qb := Lib.hid hq
          clear hq
          clear hb
          have hk20 : decide ((20 : Int) < ((k : Nat) : Int)) = false := by have h := HK.out; exact decide_eq_false (by omega)
          have hk8 : k ≤ 8 := by have h := HK.out; omega
          have HX := Lib.hid Qb.out.few
          have HX0 := Lib.hid Qm.out.few
          have RN := Lib.hid ((Array.getElem?_eq_some_iff.1 Rq.out).1)
          rcases HE.out with he | ⟨he, hx1, hx2⟩ | ⟨he, hx1, hx2, hx3⟩
          · subst he
            clear HE
            have hbx : Below (w3).heap.size (w3) ((w3).alloc (.cells #[.int .i64 0, .int .i64 8, .slice f2 fn2 fc2, .int .u16 (av : Nat), .int .u16 (la2 : Nat), .slice x2 xn2 xc2] 30)) := (Below.refl _ _).alloc (Nat.le_refl _) _
            replace Rm := Lib.hid (row_keep Rm.out hbx)
            replace Rq := Lib.hid (row_keep Rq.out hbx)
            replace Am := Lib.hid (Am.out.below hbx)
            replace Qm := Lib.hid (Qm.out.below hbx)
            replace BW := Lib.hid (BW.out.trans (hbx.mono BW.out.size))
            replace Qb := Lib.hid (Qb.out.below hbx)
            have Rp := Lib.hid (heap_alloc_new (w3) (.cells #[.int .i64 0, .int .i64 8, .slice f2 fn2 fc2, .int .u16 (av : Nat), .int .u16 (la2 : Nat), .slice x2 xn2 xc2] 30))
            clear hbx
            obtain ⟨lRp0c25, zRp0c25⟩ := at_cell Rp.out 0 _ rfl
            clear zRp0c25
            obtain ⟨lRp1c26, zRp1c26⟩ := at_cell Rp.out 1 _ rfl
            clear zRp1c26
            obtain ⟨lRp2c27, zRp2c27⟩ := at_cell Rp.out 2 _ rfl
            clear zRp2c27
            obtain ⟨lRp3c28, zRp3c28⟩ := at_cell Rp.out 3 _ rfl
            clear zRp3c28
            obtain ⟨lRp4c29, zRp4c29⟩ := at_cell Rp.out 4 _ rfl
            clear zRp4c29
            obtain ⟨lRp5c30, zRp5c30⟩ := at_cell Rp.out 5 _ rfl
            clear zRp5c30
            go_wp2_with fail
            refine (check8_this _ _ _ _ _ _ _ _ _ _ Qb.out).mono ?_
            rintro e w4 ⟨rfl, hb⟩
            clear lRp0c25 lRp1c26 lRp2c27 lRp3c28 lRp4c29 lRp5c30
            replace Rm := Lib.hid (row_keep Rm.out hb)
            replace Rq := Lib.hid (row_keep Rq.out hb)
            replace Am := Lib.hid (Am.out.below hb)
            replace Qm := Lib.hid (Qm.out.below hb)
            replace BW := Lib.hid (BW.out.trans (hb.mono BW.out.size))
            replace Qb := Lib.hid (Qb.out.below hb)
            replace Rp := Lib.hid (row_keep Rp.out hb)
            clear hb
            obtain ⟨lRp0c31, zRp0c31⟩ := at_cell Rp.out 0 _ rfl
            clear zRp0c31
            obtain ⟨lRp1c32, zRp1c32⟩ := at_cell Rp.out 1 _ rfl
            clear zRp1c32
            obtain ⟨lRp2c33, zRp2c33⟩ := at_cell Rp.out 2 _ rfl
            clear zRp2c33
            obtain ⟨lRp3c34, zRp3c34⟩ := at_cell Rp.out 3 _ rfl
            clear zRp3c34
            obtain ⟨lRp4c35, zRp4c35⟩ := at_cell Rp.out 4 _ rfl
            clear zRp4c35
            obtain ⟨lRp5c36, zRp5c36⟩ := at_cell Rp.out 5 _ rfl
            clear zRp5c36
            obtain ⟨lRq0c37, zRq0c37⟩ := at_cell Rq.out 0 _ rfl
            clear zRq0c37
            obtain ⟨lRq1c38, zRq1c38⟩ := at_cell Rq.out 1 _ rfl
            clear zRq1c38
            obtain ⟨lRq2c39, zRq2c39⟩ := at_cell Rq.out 2 _ rfl
            clear zRq2c39
            obtain ⟨lRq3c40, zRq3c40⟩ := at_cell Rq.out 3 _ rfl
            clear zRq3c40
            obtain ⟨lRq4c41, zRq4c41⟩ := at_cell Rq.out 4 _ rfl
            clear zRq4c41
            obtain ⟨lRq5c42, zRq5c42⟩ := at_cell Rq.out 5 _ rfl
            clear zRq5c42
            go_wp2
            clear lRp0c31 lRp1c32 lRp2c33 lRp3c34 lRp4c35 lRp5c36 lRq0c37 lRq1c38 lRq2c39 lRq3c40 lRq4c41 lRq5c42
            go_roundw
            case rel => exact ⟨j + 1, _, _, _, _, _, _, _, _, av, la, q, G3, by omega, by go_num, HN3.out, Rm.out, Rq.out, Am.out, Qm.out, BW.out⟩
            case measure => simp [intOf]; omega
          · subst he
            clear HE
            have HM := Lib.hid hx2
            clear hx2
            subst hx1
            have hbx : Below (w3).heap.size (w3) ((w3).alloc (.cells #[.int .i64 0, .int .i64 8, .slice f2 fn2 fc2, .int .u16 (av : Nat), .int .u16 (la2 : Nat), .slice x2 xn2 xc2] 30)) := (Below.refl _ _).alloc (Nat.le_refl _) _
            replace Rm := Lib.hid (row_keep Rm.out hbx)
            replace Rq := Lib.hid (row_keep Rq.out hbx)
            replace Am := Lib.hid (Am.out.below hbx)
            replace Qm := Lib.hid (Qm.out.below hbx)
            replace BW := Lib.hid (BW.out.trans (hbx.mono BW.out.size))
            replace Qb := Lib.hid (Qb.out.below hbx)
            have Rp := Lib.hid (heap_alloc_new (w3) (.cells #[.int .i64 0, .int .i64 8, .slice f2 fn2 fc2, .int .u16 (av : Nat), .int .u16 (la2 : Nat), .slice x2 xn2 xc2] 30))
            clear hbx
            obtain ⟨lRp0c43, zRp0c43⟩ := at_cell Rp.out 0 _ rfl
            clear zRp0c43
            obtain ⟨lRp1c44, zRp1c44⟩ := at_cell Rp.out 1 _ rfl
            clear zRp1c44
            obtain ⟨lRp2c45, zRp2c45⟩ := at_cell Rp.out 2 _ rfl
            clear zRp2c45
            obtain ⟨lRp3c46, zRp3c46⟩ := at_cell Rp.out 3 _ rfl
            clear zRp3c46
            obtain ⟨lRp4c47, zRp4c47⟩ := at_cell Rp.out 4 _ rfl
            clear zRp4c47
            obtain ⟨lRp5c48, zRp5c48⟩ := at_cell Rp.out 5 _ rfl
            clear zRp5c48
            go_wp2_with fail
            refine (check8_this _ _ _ _ _ _ _ _ _ _ Qb.out).mono ?_
            rintro e w4 ⟨rfl, hb⟩
            clear lRp0c43 lRp1c44 lRp2c45 lRp3c46 lRp4c47 lRp5c48
            replace Rm := Lib.hid (row_keep Rm.out hb)
            replace Rq := Lib.hid (row_keep Rq.out hb)
            replace Am := Lib.hid (Am.out.below hb)
            replace Qm := Lib.hid (Qm.out.below hb)
            replace BW := Lib.hid (BW.out.trans (hb.mono BW.out.size))
            replace Qb := Lib.hid (Qb.out.below hb)
            replace Rp := Lib.hid (row_keep Rp.out hb)
            clear hb
            obtain ⟨lRp0c49, zRp0c49⟩ := at_cell Rp.out 0 _ rfl
            clear zRp0c49
            obtain ⟨lRp1c50, zRp1c50⟩ := at_cell Rp.out 1 _ rfl
            clear zRp1c50
            obtain ⟨lRp2c51, zRp2c51⟩ := at_cell Rp.out 2 _ rfl
            clear zRp2c51
            obtain ⟨lRp3c52, zRp3c52⟩ := at_cell Rp.out 3 _ rfl
            clear zRp3c52
            obtain ⟨lRp4c53, zRp4c53⟩ := at_cell Rp.out 4 _ rfl
            clear zRp4c53
            obtain ⟨lRp5c54, zRp5c54⟩ := at_cell Rp.out 5 _ rfl
            clear zRp5c54
            obtain ⟨lRq0c55, zRq0c55⟩ := at_cell Rq.out 0 _ rfl
            clear zRq0c55
            obtain ⟨lRq1c56, zRq1c56⟩ := at_cell Rq.out 1 _ rfl
            clear zRq1c56
            obtain ⟨lRq2c57, zRq2c57⟩ := at_cell Rq.out 2 _ rfl
            clear zRq2c57
            obtain ⟨lRq3c58, zRq3c58⟩ := at_cell Rq.out 3 _ rfl
            clear zRq3c58
            obtain ⟨lRq4c59, zRq4c59⟩ := at_cell Rq.out 4 _ rfl
            clear zRq4c59
            obtain ⟨lRq5c60, zRq5c60⟩ := at_cell Rq.out 5 _ rfl
            clear zRq5c60
            go_upto_region 27 with fail
            clear lRp0c49 lRp1c50 lRp2c51 lRp3c52 lRp4c53 lRp5c54 lRq0c55 lRq1c56 lRq2c57 lRq3c58 lRq4c59 lRq5c60 hk20
            obtain ⟨lRp0c61, zRp0c61⟩ := at_cell Rp.out 0 _ rfl
            clear zRp0c61
            obtain ⟨lRp1c62, zRp1c62⟩ := at_cell Rp.out 1 _ rfl
            clear zRp1c62
            obtain ⟨lRp2c63, zRp2c63⟩ := at_cell Rp.out 2 _ rfl
            clear zRp2c63
            obtain ⟨lRp3c64, zRp3c64⟩ := at_cell Rp.out 3 _ rfl
            clear zRp3c64
            obtain ⟨lRp4c65, zRp4c65⟩ := at_cell Rp.out 4 _ rfl
            clear zRp4c65
            obtain ⟨lRp5c66, zRp5c66⟩ := at_cell Rp.out 5 _ rfl
            clear zRp5c66
            obtain ⟨lRq0c67, zRq0c67⟩ := at_cell Rq.out 0 _ rfl
            obtain ⟨lRq1c68, zRq1c68⟩ := at_cell Rq.out 1 _ rfl
            obtain ⟨lRq2c69, zRq2c69⟩ := at_cell Rq.out 2 _ rfl
            obtain ⟨lRq3c70, zRq3c70⟩ := at_cell Rq.out 3 _ rfl
            obtain ⟨lRq4c71, zRq4c71⟩ := at_cell Rq.out 4 _ rfl
            obtain ⟨lRq5c72, zRq5c72⟩ := at_cell Rq.out 5 _ rfl
            have hlq := (Array.getElem?_eq_some_iff.1 Rq.out).1
            obtain ⟨vs73, hvs73⟩ : ∃ l : List Value, l = [.int .i64 0, .int .i64 8, .slice f2 fn2 fc2, .int .u16 (av : Nat), .int .u16 (la2 : Nat), .slice x2 xn2 xc2] := ⟨_, rfl⟩
            obtain ⟨wa73, hwa73⟩ : ∃ y, y = setAll w4 (w1.heap.size + 1) 0 vs73 := ⟨_, rfl⟩
            have Rmn := setAll_any (P := fun W => W.heap[w1.heap.size]? = _) vs73 0 w4 _ Rq.out Rm.out (fun _ _ j u _ h => one_other h ⟨w1.heap.size + 1, j, none⟩ u (show w1.heap.size + 1 ≠ w1.heap.size by omega))
            have Amn := setAll_any (P := fun W => OwnB 0 W _ _) vs73 0 w4 _ Rq.out Am.out (fun _ _ j u r h => h.stay r (by decide) j u)
            have Qmn := setAll_any (P := fun W => HQ W _ _ _ _ _ _ _ _ _) vs73 0 w4 _ Rq.out Qm.out (fun _ _ j u r h => h.stay r (by decide) (by decide) j u)
            have BWn := setAll_any (P := fun W => Below w.heap.size w W) vs73 0 w4 _ Rq.out BW.out (fun _ _ j u _ h => h.setCell (p := ⟨w1.heap.size + 1, j, none⟩) ((by show w.heap.size ≤ w1.heap.size + 1; have := HS1.out; omega)) u)
            have Qbn := setAll_any (P := fun W => HQ W _ _ _ _ _ _ _ _ _) vs73 0 w4 _ Rq.out Qb.out (fun _ _ j u r h => h.stay r (by decide) (by decide) j u)
            have Rpn := setAll_any (P := fun W => W.heap[w3.heap.size]? = _) vs73 0 w4 _ Rq.out Rp.out (fun _ _ j u _ h => one_other h ⟨w1.heap.size + 1, j, none⟩ u (show w1.heap.size + 1 ≠ w3.heap.size from Nat.ne_of_lt (by have := RN.out; exact this)))
            have Rqn := setAll_new vs73 Rq.out (by rw [hvs73]; rfl)
            rw [← hwa73] at Rmn Amn Qmn BWn Qbn Rpn Rqn
            rw [hvs73] at Rqn
            replace Rm := Lib.hid Rmn
            replace Am := Lib.hid Amn
            replace Qm := Lib.hid Qmn
            replace BW := Lib.hid BWn
            replace Qb := Lib.hid Qbn
            replace Rp := Lib.hid Rpn
            replace Rq := Lib.hid Rqn
            clear Rmn Amn Qmn BWn Qbn Rpn Rqn
            go_simp
            iterate 6 (first | go_step | go_values | go_skip | go_guarded | go_upon | go_in | go_back)
            clear lRp0c61 lRp1c62 lRp2c63 lRp3c64 lRp4c65 lRp5c66 lRq0c67 zRq0c67 lRq1c68 zRq1c68 lRq2c69 zRq2c69 lRq3c70 zRq3c70 lRq4c71 zRq4c71 lRq5c72 zRq5c72 hlq
            rw [show ((((((w4.setCell ⟨w1.heap.size + 1, 0, none⟩ (.int .i64 0)).setCell ⟨w1.heap.size + 1, 1, none⟩ (.int .i64 8)).setCell ⟨w1.heap.size + 1, 2, none⟩ (.slice f2 fn2 fc2)).setCell ⟨w1.heap.size + 1, 3, none⟩ (.int .u16 (av : Nat))).setCell ⟨w1.heap.size + 1, 4, none⟩ (.int .u16 (la2 : Nat))).setCell ⟨w1.heap.size + 1, 5, none⟩ (.slice x2 xn2 xc2)) = wa73 from by rw [hwa73, hvs73]; rfl]
            clear hwa73 hvs73
            go_wp2
            go_roundw
            case rel => exact ⟨k + 1, _, _, _, _, _, _, av, la2, q2, by have h1 := HK.out; have h2 := HM.out; omega, by go_num, Rm.out, Rq.out, Am.out, Qb.out, BW.out⟩
            case measure => have := HK.out; simp [intOf]; omega
          · subst he
            clear HE
            have HM := Lib.hid hx2
            clear hx2
            have HH := Lib.hid hx3
            have hw1 : IntKind.i64.wrap (((xn : Nat) : Int) - 1) = ((xn2 : Nat) : Int) := by have := HX0.out; simp [IntKind.wrap, IntKind.bits, IntKind.signed]; omega
            have HXE := Lib.hid hx1
            clear hx1
            have hbx : Below (w3).heap.size (w3) ((w3).alloc (.cells #[.int .i64 0, .int .i64 8, .slice f2 fn2 fc2, .int .u16 (av : Nat), .int .u16 (la2 : Nat), .slice x2 xn2 xc2] 30)) := (Below.refl _ _).alloc (Nat.le_refl _) _
            replace Rm := Lib.hid (row_keep Rm.out hbx)
            replace Rq := Lib.hid (row_keep Rq.out hbx)
            replace Am := Lib.hid (Am.out.below hbx)
            replace Qm := Lib.hid (Qm.out.below hbx)
            replace BW := Lib.hid (BW.out.trans (hbx.mono BW.out.size))
            replace Qb := Lib.hid (Qb.out.below hbx)
            have Rp := Lib.hid (heap_alloc_new (w3) (.cells #[.int .i64 0, .int .i64 8, .slice f2 fn2 fc2, .int .u16 (av : Nat), .int .u16 (la2 : Nat), .slice x2 xn2 xc2] 30))
            clear hbx
            obtain ⟨lRp0c74, zRp0c74⟩ := at_cell Rp.out 0 _ rfl
            clear zRp0c74
            obtain ⟨lRp1c75, zRp1c75⟩ := at_cell Rp.out 1 _ rfl
            clear zRp1c75
            obtain ⟨lRp2c76, zRp2c76⟩ := at_cell Rp.out 2 _ rfl
            clear zRp2c76
            obtain ⟨lRp3c77, zRp3c77⟩ := at_cell Rp.out 3 _ rfl
            clear zRp3c77
            obtain ⟨lRp4c78, zRp4c78⟩ := at_cell Rp.out 4 _ rfl
            clear zRp4c78
            obtain ⟨lRp5c79, zRp5c79⟩ := at_cell Rp.out 5 _ rfl
            clear zRp5c79
            go_wp2_with fail
            refine (check8_this _ _ _ _ _ _ _ _ _ _ Qb.out).mono ?_
            rintro e w4 ⟨rfl, hb⟩
            clear lRp0c74 lRp1c75 lRp2c76 lRp3c77 lRp4c78 lRp5c79
            replace Rm := Lib.hid (row_keep Rm.out hb)
            replace Rq := Lib.hid (row_keep Rq.out hb)
            replace Am := Lib.hid (Am.out.below hb)
            replace Qm := Lib.hid (Qm.out.below hb)
            replace BW := Lib.hid (BW.out.trans (hb.mono BW.out.size))
            replace Qb := Lib.hid (Qb.out.below hb)
            replace Rp := Lib.hid (row_keep Rp.out hb)
            clear hb
            obtain ⟨lRp0c80, zRp0c80⟩ := at_cell Rp.out 0 _ rfl
            clear zRp0c80
            obtain ⟨lRp1c81, zRp1c81⟩ := at_cell Rp.out 1 _ rfl
            clear zRp1c81
            obtain ⟨lRp2c82, zRp2c82⟩ := at_cell Rp.out 2 _ rfl
            clear zRp2c82
            obtain ⟨lRp3c83, zRp3c83⟩ := at_cell Rp.out 3 _ rfl
            clear zRp3c83
            obtain ⟨lRp4c84, zRp4c84⟩ := at_cell Rp.out 4 _ rfl
            clear zRp4c84
            obtain ⟨lRp5c85, zRp5c85⟩ := at_cell Rp.out 5 _ rfl
            clear zRp5c85
            obtain ⟨lRq0c86, zRq0c86⟩ := at_cell Rq.out 0 _ rfl
            clear zRq0c86
            obtain ⟨lRq1c87, zRq1c87⟩ := at_cell Rq.out 1 _ rfl
            clear zRq1c87
            obtain ⟨lRq2c88, zRq2c88⟩ := at_cell Rq.out 2 _ rfl
            clear zRq2c88
            obtain ⟨lRq3c89, zRq3c89⟩ := at_cell Rq.out 3 _ rfl
            clear zRq3c89
            obtain ⟨lRq4c90, zRq4c90⟩ := at_cell Rq.out 4 _ rfl
            clear zRq4c90
            obtain ⟨lRq5c91, zRq5c91⟩ := at_cell Rq.out 5 _ rfl
            clear zRq5c91
            go_wp2_with fail
            refine (had8_this _ _ _ _ _ _ _ _ _ _ _ _ Qm.out HH.out).mono ?_
            rintro e w5 ⟨rfl, hb⟩
            clear lRp0c80 lRp1c81 lRp2c82 lRp3c83 lRp4c84 lRp5c85 lRq0c86 lRq1c87 lRq2c88 lRq3c89 lRq4c90 lRq5c91
            replace Rm := Lib.hid (row_keep Rm.out hb)
            replace Rq := Lib.hid (row_keep Rq.out hb)
            replace Am := Lib.hid (Am.out.below hb)
            replace Qm := Lib.hid (Qm.out.below hb)
            replace BW := Lib.hid (BW.out.trans (hb.mono BW.out.size))
            replace Qb := Lib.hid (Qb.out.below hb)
            replace Rp := Lib.hid (row_keep Rp.out hb)
            clear hb
            obtain ⟨lRp0c92, zRp0c92⟩ := at_cell Rp.out 0 _ rfl
            clear zRp0c92
            obtain ⟨lRp1c93, zRp1c93⟩ := at_cell Rp.out 1 _ rfl
            clear zRp1c93
            obtain ⟨lRp2c94, zRp2c94⟩ := at_cell Rp.out 2 _ rfl
            clear zRp2c94
            obtain ⟨lRp3c95, zRp3c95⟩ := at_cell Rp.out 3 _ rfl
            clear zRp3c95
            obtain ⟨lRp4c96, zRp4c96⟩ := at_cell Rp.out 4 _ rfl
            clear zRp4c96
            obtain ⟨lRp5c97, zRp5c97⟩ := at_cell Rp.out 5 _ rfl
            clear zRp5c97
            go_upto_region 27 with fail
            clear lRp0c92 lRp1c93 lRp2c94 lRp3c95 lRp4c96 lRp5c97 hk20 hw1
            obtain ⟨lRp0c98, zRp0c98⟩ := at_cell Rp.out 0 _ rfl
            clear zRp0c98
            obtain ⟨lRp1c99, zRp1c99⟩ := at_cell Rp.out 1 _ rfl
            clear zRp1c99
            obtain ⟨lRp2c100, zRp2c100⟩ := at_cell Rp.out 2 _ rfl
            clear zRp2c100
            obtain ⟨lRp3c101, zRp3c101⟩ := at_cell Rp.out 3 _ rfl
            clear zRp3c101
            obtain ⟨lRp4c102, zRp4c102⟩ := at_cell Rp.out 4 _ rfl
            clear zRp4c102
            obtain ⟨lRp5c103, zRp5c103⟩ := at_cell Rp.out 5 _ rfl
            clear zRp5c103
            obtain ⟨lRq0c104, zRq0c104⟩ := at_cell Rq.out 0 _ rfl
            obtain ⟨lRq1c105, zRq1c105⟩ := at_cell Rq.out 1 _ rfl
            obtain ⟨lRq2c106, zRq2c106⟩ := at_cell Rq.out 2 _ rfl
            obtain ⟨lRq3c107, zRq3c107⟩ := at_cell Rq.out 3 _ rfl
            obtain ⟨lRq4c108, zRq4c108⟩ := at_cell Rq.out 4 _ rfl
            obtain ⟨lRq5c109, zRq5c109⟩ := at_cell Rq.out 5 _ rfl
            have hlq := (Array.getElem?_eq_some_iff.1 Rq.out).1
            obtain ⟨vs110, hvs110⟩ : ∃ l : List Value, l = [.int .i64 0, .int .i64 8, .slice f2 fn2 fc2, .int .u16 (av : Nat), .int .u16 (la2 : Nat), .slice x2 xn2 xc2] := ⟨_, rfl⟩
            obtain ⟨wa110, hwa110⟩ : ∃ y, y = setAll w5 (w1.heap.size + 1) 0 vs110 := ⟨_, rfl⟩
            have Rmn := setAll_any (P := fun W => W.heap[w1.heap.size]? = _) vs110 0 w5 _ Rq.out Rm.out (fun _ _ j u _ h => one_other h ⟨w1.heap.size + 1, j, none⟩ u (show w1.heap.size + 1 ≠ w1.heap.size by omega))
            have Amn := setAll_any (P := fun W => OwnB 0 W _ _) vs110 0 w5 _ Rq.out Am.out (fun _ _ j u r h => h.stay r (by decide) j u)
            have Qmn := setAll_any (P := fun W => HQ W _ _ _ _ _ _ _ _ _) vs110 0 w5 _ Rq.out Qm.out (fun _ _ j u r h => h.stay r (by decide) (by decide) j u)
            have BWn := setAll_any (P := fun W => Below w.heap.size w W) vs110 0 w5 _ Rq.out BW.out (fun _ _ j u _ h => h.setCell (p := ⟨w1.heap.size + 1, j, none⟩) ((by show w.heap.size ≤ w1.heap.size + 1; have := HS1.out; omega)) u)
            have Qbn := setAll_any (P := fun W => HQ W _ _ _ _ _ _ _ _ _) vs110 0 w5 _ Rq.out Qb.out (fun _ _ j u r h => h.stay r (by decide) (by decide) j u)
            have Rpn := setAll_any (P := fun W => W.heap[w3.heap.size]? = _) vs110 0 w5 _ Rq.out Rp.out (fun _ _ j u _ h => one_other h ⟨w1.heap.size + 1, j, none⟩ u (show w1.heap.size + 1 ≠ w3.heap.size from Nat.ne_of_lt (by have := RN.out; exact this)))
            have Rqn := setAll_new vs110 Rq.out (by rw [hvs110]; rfl)
            rw [← hwa110] at Rmn Amn Qmn BWn Qbn Rpn Rqn
            rw [hvs110] at Rqn
            replace Rm := Lib.hid Rmn
            replace Am := Lib.hid Amn
            replace Qm := Lib.hid Qmn
            replace BW := Lib.hid BWn
            replace Qb := Lib.hid Qbn
            replace Rp := Lib.hid Rpn
            replace Rq := Lib.hid Rqn
            clear Rmn Amn Qmn BWn Qbn Rpn Rqn
            go_simp
            iterate 6 (first | go_step | go_values | go_skip | go_guarded | go_upon | go_in | go_back)
            clear lRp0c98 lRp1c99 lRp2c100 lRp3c101 lRp4c102 lRp5c103 lRq0c104 zRq0c104 lRq1c105 zRq1c105 lRq2c106 zRq2c106 lRq3c107 zRq3c107 lRq4c108 zRq4c108 lRq5c109 zRq5c109 hlq
            rw [show ((((((w5.setCell ⟨w1.heap.size + 1, 0, none⟩ (.int .i64 0)).setCell ⟨w1.heap.size + 1, 1, none⟩ (.int .i64 8)).setCell ⟨w1.heap.size + 1, 2, none⟩ (.slice f2 fn2 fc2)).setCell ⟨w1.heap.size + 1, 3, none⟩ (.int .u16 (av : Nat))).setCell ⟨w1.heap.size + 1, 4, none⟩ (.int .u16 (la2 : Nat))).setCell ⟨w1.heap.size + 1, 5, none⟩ (.slice x2 xn2 xc2)) = wa110 from by rw [hwa110, hvs110]; rfl]
            clear hwa110 hvs110
            go_wp2
            go_roundw
            case rel => exact ⟨k + 1, _, _, _, _, _, _, av, la2, q2, by have h1 := HK.out; have h2 := HM.out; omega, by go_num, Rm.out, Rq.out, Am.out, Qb.out, BW.out⟩
            case measure => have := HK.out; simp [intOf]; omega
      · have h9 : ¬ (((z : Nat) : Int) % 8) = 0 := by omega
        have h10 : ((((z : Nat) : Int) % 8) == 0) = false := by simpa using h9
        go_wp2
        clear ht h8 h9 h10
        go_loopw [13] (fun i wr => ∃ (k : Nat) (fm : Option Addr) (fn fc : Nat) (xm : Option Addr) (xn xc av la : Nat) (q : QQ), k + measH G2 q ≤ 8 ∧ i = .int .i64 (k : Nat) ∧ wr.heap[w1.heap.size]? = some (.cells #[.slice ra 600 rc] 26 (0, 0)) ∧ wr.heap[w1.heap.size + 1]? = some (.cells #[.int .i64 0, .int .i64 8, .slice fm fn fc, .int .u16 (av : Nat), .int .u16 (la : Nat), .slice xm xn xc] 30 (0, 0)) ∧ OwnB 0 wr (.slice ra 600 rc) G2 ∧ HQ wr fm fn fc xm xn xc av la q ∧ Below w.heap.size w wr) (fun i _ => 10 - (intOf i).toNat)
        case atStart => exact ⟨0, _, _, _, _, _, _, av, la, _, by have := measH_le (l := G2) Qm.out.good; omega, rfl, Rm.out, Rq.out, Am.out, Qm.out, BW.out⟩
        case round =>
         clear Rm Rq Am Qm BW
         obtain ⟨k, fm, fn, fc, xm, xn, xc, av, la, q, hk, rfl, hm, hq, ho, hi, hb⟩ := hrel
         have Rm := Lib.hid hm
         have Rq := Lib.hid hq
         have Am := Lib.hid ho
         have Qm := Lib.hid hi
         have BW := Lib.hid hb
         have HK := Lib.hid hk
         clear hm hq ho hi hb hk
         obtain ⟨lRm0c111, zRm0c111⟩ := at_cell Rm.out 0 _ rfl
         clear zRm0c111
         obtain ⟨lRq0c112, zRq0c112⟩ := at_cell Rq.out 0 _ rfl
         clear zRq0c112
         obtain ⟨lRq1c113, zRq1c113⟩ := at_cell Rq.out 1 _ rfl
         clear zRq1c113
         obtain ⟨lRq2c114, zRq2c114⟩ := at_cell Rq.out 2 _ rfl
         clear zRq2c114
         obtain ⟨lRq3c115, zRq3c115⟩ := at_cell Rq.out 3 _ rfl
         clear zRq3c115
         obtain ⟨lRq4c116, zRq4c116⟩ := at_cell Rq.out 4 _ rfl
         clear zRq4c116
         obtain ⟨lRq5c117, zRq5c117⟩ := at_cell Rq.out 5 _ rfl
         clear zRq5c117
         go_wp2_with fail
         refine (poll8_this _ _ _ _ _ _ _ _ q _ G2 _ Am.out Qm.out HN2.out).mono ?_
         rintro e w6 ⟨f2, fn2, fc2, x2, xn2, xc2, la2, q2, x, y, E, rfl, hq, hE, hb⟩
         have HE := Lib.hid hE
         clear hE
         clear lRm0c111 lRq0c112 lRq1c113 lRq2c114 lRq3c115 lRq4c116 lRq5c117
         replace Rm := Lib.hid (row_keep Rm.out hb)
         replace Rq := Lib.hid (row_keep Rq.out hb)
         replace Am := Lib.hid (Am.out.below hb)
         replace Qm := Lib.hid (Qm.out.below hb)
         replace BW := Lib.hid (BW.out.trans (hb.mono BW.out.size))
         have Qb := Lib.hid hq
         clear hq
         clear hb
         have hk20 : decide ((20 : Int) < ((k : Nat) : Int)) = false := by have h := HK.out; exact decide_eq_false (by omega)
         have hk8 : k ≤ 8 := by have h := HK.out; omega
         have HX := Lib.hid Qb.out.few
         have HX0 := Lib.hid Qm.out.few
         have RN := Lib.hid ((Array.getElem?_eq_some_iff.1 Rq.out).1)
         rcases HE.out with he | ⟨he, hx1, hx2⟩ | ⟨he, hx1, hx2, hx3⟩
         · subst he
           clear HE
           have hbx : Below (w6).heap.size (w6) ((w6).alloc (.cells #[.int .i64 0, .int .i64 8, .slice f2 fn2 fc2, .int .u16 (av : Nat), .int .u16 (la2 : Nat), .slice x2 xn2 xc2] 30)) := (Below.refl _ _).alloc (Nat.le_refl _) _
           replace Rm := Lib.hid (row_keep Rm.out hbx)
           replace Rq := Lib.hid (row_keep Rq.out hbx)
           replace Am := Lib.hid (Am.out.below hbx)
           replace Qm := Lib.hid (Qm.out.below hbx)
           replace BW := Lib.hid (BW.out.trans (hbx.mono BW.out.size))
           replace Qb := Lib.hid (Qb.out.below hbx)
           have Rp := Lib.hid (heap_alloc_new (w6) (.cells #[.int .i64 0, .int .i64 8, .slice f2 fn2 fc2, .int .u16 (av : Nat), .int .u16 (la2 : Nat), .slice x2 xn2 xc2] 30))
           clear hbx
           obtain ⟨lRp0c118, zRp0c118⟩ := at_cell Rp.out 0 _ rfl
           clear zRp0c118
           obtain ⟨lRp1c119, zRp1c119⟩ := at_cell Rp.out 1 _ rfl
           clear zRp1c119
           obtain ⟨lRp2c120, zRp2c120⟩ := at_cell Rp.out 2 _ rfl
           clear zRp2c120
           obtain ⟨lRp3c121, zRp3c121⟩ := at_cell Rp.out 3 _ rfl
           clear zRp3c121
           obtain ⟨lRp4c122, zRp4c122⟩ := at_cell Rp.out 4 _ rfl
           clear zRp4c122
           obtain ⟨lRp5c123, zRp5c123⟩ := at_cell Rp.out 5 _ rfl
           clear zRp5c123
           go_wp2_with fail
           refine (check8_this _ _ _ _ _ _ _ _ _ _ Qb.out).mono ?_
           rintro e w7 ⟨rfl, hb⟩
           clear lRp0c118 lRp1c119 lRp2c120 lRp3c121 lRp4c122 lRp5c123
           replace Rm := Lib.hid (row_keep Rm.out hb)
           replace Rq := Lib.hid (row_keep Rq.out hb)
           replace Am := Lib.hid (Am.out.below hb)
           replace Qm := Lib.hid (Qm.out.below hb)
           replace BW := Lib.hid (BW.out.trans (hb.mono BW.out.size))
           replace Qb := Lib.hid (Qb.out.below hb)
           replace Rp := Lib.hid (row_keep Rp.out hb)
           clear hb
           obtain ⟨lRp0c124, zRp0c124⟩ := at_cell Rp.out 0 _ rfl
           clear zRp0c124
           obtain ⟨lRp1c125, zRp1c125⟩ := at_cell Rp.out 1 _ rfl
           clear zRp1c125
           obtain ⟨lRp2c126, zRp2c126⟩ := at_cell Rp.out 2 _ rfl
           clear zRp2c126
           obtain ⟨lRp3c127, zRp3c127⟩ := at_cell Rp.out 3 _ rfl
           clear zRp3c127
           obtain ⟨lRp4c128, zRp4c128⟩ := at_cell Rp.out 4 _ rfl
           clear zRp4c128
           obtain ⟨lRp5c129, zRp5c129⟩ := at_cell Rp.out 5 _ rfl
           clear zRp5c129
           obtain ⟨lRq0c130, zRq0c130⟩ := at_cell Rq.out 0 _ rfl
           clear zRq0c130
           obtain ⟨lRq1c131, zRq1c131⟩ := at_cell Rq.out 1 _ rfl
           clear zRq1c131
           obtain ⟨lRq2c132, zRq2c132⟩ := at_cell Rq.out 2 _ rfl
           clear zRq2c132
           obtain ⟨lRq3c133, zRq3c133⟩ := at_cell Rq.out 3 _ rfl
           clear zRq3c133
           obtain ⟨lRq4c134, zRq4c134⟩ := at_cell Rq.out 4 _ rfl
           clear zRq4c134
           obtain ⟨lRq5c135, zRq5c135⟩ := at_cell Rq.out 5 _ rfl
           clear zRq5c135
           go_wp2
           clear lRp0c124 lRp1c125 lRp2c126 lRp3c127 lRp4c128 lRp5c129 lRq0c130 lRq1c131 lRq2c132 lRq3c133 lRq4c134 lRq5c135
           go_roundw
           case rel => exact ⟨j + 1, _, _, _, _, _, _, _, _, av, la, q, G2, by omega, by go_num, HN2.out, Rm.out, Rq.out, Am.out, Qm.out, BW.out⟩
           case measure => simp [intOf]; omega
         · subst he
           clear HE
           have HM := Lib.hid hx2
           clear hx2
           subst hx1
           have hbx : Below (w6).heap.size (w6) ((w6).alloc (.cells #[.int .i64 0, .int .i64 8, .slice f2 fn2 fc2, .int .u16 (av : Nat), .int .u16 (la2 : Nat), .slice x2 xn2 xc2] 30)) := (Below.refl _ _).alloc (Nat.le_refl _) _
           replace Rm := Lib.hid (row_keep Rm.out hbx)
           replace Rq := Lib.hid (row_keep Rq.out hbx)
           replace Am := Lib.hid (Am.out.below hbx)
           replace Qm := Lib.hid (Qm.out.below hbx)
           replace BW := Lib.hid (BW.out.trans (hbx.mono BW.out.size))
           replace Qb := Lib.hid (Qb.out.below hbx)
           have Rp := Lib.hid (heap_alloc_new (w6) (.cells #[.int .i64 0, .int .i64 8, .slice f2 fn2 fc2, .int .u16 (av : Nat), .int .u16 (la2 : Nat), .slice x2 xn2 xc2] 30))
           clear hbx
           obtain ⟨lRp0c136, zRp0c136⟩ := at_cell Rp.out 0 _ rfl
           clear zRp0c136
           obtain ⟨lRp1c137, zRp1c137⟩ := at_cell Rp.out 1 _ rfl
           clear zRp1c137
           obtain ⟨lRp2c138, zRp2c138⟩ := at_cell Rp.out 2 _ rfl
           clear zRp2c138
           obtain ⟨lRp3c139, zRp3c139⟩ := at_cell Rp.out 3 _ rfl
           clear zRp3c139
           obtain ⟨lRp4c140, zRp4c140⟩ := at_cell Rp.out 4 _ rfl
           clear zRp4c140
           obtain ⟨lRp5c141, zRp5c141⟩ := at_cell Rp.out 5 _ rfl
           clear zRp5c141
           go_wp2_with fail
           refine (check8_this _ _ _ _ _ _ _ _ _ _ Qb.out).mono ?_
           rintro e w7 ⟨rfl, hb⟩
           clear lRp0c136 lRp1c137 lRp2c138 lRp3c139 lRp4c140 lRp5c141
           replace Rm := Lib.hid (row_keep Rm.out hb)
           replace Rq := Lib.hid (row_keep Rq.out hb)
           replace Am := Lib.hid (Am.out.below hb)
           replace Qm := Lib.hid (Qm.out.below hb)
           replace BW := Lib.hid (BW.out.trans (hb.mono BW.out.size))
           replace Qb := Lib.hid (Qb.out.below hb)
           replace Rp := Lib.hid (row_keep Rp.out hb)
           clear hb
           obtain ⟨lRp0c142, zRp0c142⟩ := at_cell Rp.out 0 _ rfl
           clear zRp0c142
           obtain ⟨lRp1c143, zRp1c143⟩ := at_cell Rp.out 1 _ rfl
           clear zRp1c143
           obtain ⟨lRp2c144, zRp2c144⟩ := at_cell Rp.out 2 _ rfl
           clear zRp2c144
           obtain ⟨lRp3c145, zRp3c145⟩ := at_cell Rp.out 3 _ rfl
           clear zRp3c145
           obtain ⟨lRp4c146, zRp4c146⟩ := at_cell Rp.out 4 _ rfl
           clear zRp4c146
           obtain ⟨lRp5c147, zRp5c147⟩ := at_cell Rp.out 5 _ rfl
           clear zRp5c147
           obtain ⟨lRq0c148, zRq0c148⟩ := at_cell Rq.out 0 _ rfl
           clear zRq0c148
           obtain ⟨lRq1c149, zRq1c149⟩ := at_cell Rq.out 1 _ rfl
           clear zRq1c149
           obtain ⟨lRq2c150, zRq2c150⟩ := at_cell Rq.out 2 _ rfl
           clear zRq2c150
           obtain ⟨lRq3c151, zRq3c151⟩ := at_cell Rq.out 3 _ rfl
           clear zRq3c151
           obtain ⟨lRq4c152, zRq4c152⟩ := at_cell Rq.out 4 _ rfl
           clear zRq4c152
           obtain ⟨lRq5c153, zRq5c153⟩ := at_cell Rq.out 5 _ rfl
           clear zRq5c153
           go_upto_region 27 with fail
           clear lRp0c142 lRp1c143 lRp2c144 lRp3c145 lRp4c146 lRp5c147 lRq0c148 lRq1c149 lRq2c150 lRq3c151 lRq4c152 lRq5c153 hk20
           obtain ⟨lRp0c154, zRp0c154⟩ := at_cell Rp.out 0 _ rfl
           clear zRp0c154
           obtain ⟨lRp1c155, zRp1c155⟩ := at_cell Rp.out 1 _ rfl
           clear zRp1c155
           obtain ⟨lRp2c156, zRp2c156⟩ := at_cell Rp.out 2 _ rfl
           clear zRp2c156
           obtain ⟨lRp3c157, zRp3c157⟩ := at_cell Rp.out 3 _ rfl
           clear zRp3c157
           obtain ⟨lRp4c158, zRp4c158⟩ := at_cell Rp.out 4 _ rfl
           clear zRp4c158
           obtain ⟨lRp5c159, zRp5c159⟩ := at_cell Rp.out 5 _ rfl
           clear zRp5c159
           obtain ⟨lRq0c160, zRq0c160⟩ := at_cell Rq.out 0 _ rfl
           obtain ⟨lRq1c161, zRq1c161⟩ := at_cell Rq.out 1 _ rfl
           obtain ⟨lRq2c162, zRq2c162⟩ := at_cell Rq.out 2 _ rfl
           obtain ⟨lRq3c163, zRq3c163⟩ := at_cell Rq.out 3 _ rfl
           obtain ⟨lRq4c164, zRq4c164⟩ := at_cell Rq.out 4 _ rfl
           obtain ⟨lRq5c165, zRq5c165⟩ := at_cell Rq.out 5 _ rfl
           have hlq := (Array.getElem?_eq_some_iff.1 Rq.out).1
           obtain ⟨vs166, hvs166⟩ : ∃ l : List Value, l = [.int .i64 0, .int .i64 8, .slice f2 fn2 fc2, .int .u16 (av : Nat), .int .u16 (la2 : Nat), .slice x2 xn2 xc2] := ⟨_, rfl⟩
           obtain ⟨wa166, hwa166⟩ : ∃ y, y = setAll w7 (w1.heap.size + 1) 0 vs166 := ⟨_, rfl⟩
           have Rmn := setAll_any (P := fun W => W.heap[w1.heap.size]? = _) vs166 0 w7 _ Rq.out Rm.out (fun _ _ j u _ h => one_other h ⟨w1.heap.size + 1, j, none⟩ u (show w1.heap.size + 1 ≠ w1.heap.size by omega))
           have Amn := setAll_any (P := fun W => OwnB 0 W _ _) vs166 0 w7 _ Rq.out Am.out (fun _ _ j u r h => h.stay r (by decide) j u)
           have Qmn := setAll_any (P := fun W => HQ W _ _ _ _ _ _ _ _ _) vs166 0 w7 _ Rq.out Qm.out (fun _ _ j u r h => h.stay r (by decide) (by decide) j u)
           have BWn := setAll_any (P := fun W => Below w.heap.size w W) vs166 0 w7 _ Rq.out BW.out (fun _ _ j u _ h => h.setCell (p := ⟨w1.heap.size + 1, j, none⟩) ((by show w.heap.size ≤ w1.heap.size + 1; have := HS1.out; omega)) u)
           have Qbn := setAll_any (P := fun W => HQ W _ _ _ _ _ _ _ _ _) vs166 0 w7 _ Rq.out Qb.out (fun _ _ j u r h => h.stay r (by decide) (by decide) j u)
           have Rpn := setAll_any (P := fun W => W.heap[w6.heap.size]? = _) vs166 0 w7 _ Rq.out Rp.out (fun _ _ j u _ h => one_other h ⟨w1.heap.size + 1, j, none⟩ u (show w1.heap.size + 1 ≠ w6.heap.size from Nat.ne_of_lt (by have := RN.out; exact this)))
           have Rqn := setAll_new vs166 Rq.out (by rw [hvs166]; rfl)
           rw [← hwa166] at Rmn Amn Qmn BWn Qbn Rpn Rqn
           rw [hvs166] at Rqn
           replace Rm := Lib.hid Rmn
           replace Am := Lib.hid Amn
           replace Qm := Lib.hid Qmn
           replace BW := Lib.hid BWn
           replace Qb := Lib.hid Qbn
           replace Rp := Lib.hid Rpn
           replace Rq := Lib.hid Rqn
           clear Rmn Amn Qmn BWn Qbn Rpn Rqn
           go_simp
           iterate 6 (first | go_step | go_values | go_skip | go_guarded | go_upon | go_in | go_back)
           clear lRp0c154 lRp1c155 lRp2c156 lRp3c157 lRp4c158 lRp5c159 lRq0c160 zRq0c160 lRq1c161 zRq1c161 lRq2c162 zRq2c162 lRq3c163 zRq3c163 lRq4c164 zRq4c164 lRq5c165 zRq5c165 hlq
           rw [show ((((((w7.setCell ⟨w1.heap.size + 1, 0, none⟩ (.int .i64 0)).setCell ⟨w1.heap.size + 1, 1, none⟩ (.int .i64 8)).setCell ⟨w1.heap.size + 1, 2, none⟩ (.slice f2 fn2 fc2)).setCell ⟨w1.heap.size + 1, 3, none⟩ (.int .u16 (av : Nat))).setCell ⟨w1.heap.size + 1, 4, none⟩ (.int .u16 (la2 : Nat))).setCell ⟨w1.heap.size + 1, 5, none⟩ (.slice x2 xn2 xc2)) = wa166 from by rw [hwa166, hvs166]; rfl]
           clear hwa166 hvs166
           go_wp2
           go_roundw
           case rel => exact ⟨k + 1, _, _, _, _, _, _, av, la2, q2, by have h1 := HK.out; have h2 := HM.out; omega, by go_num, Rm.out, Rq.out, Am.out, Qb.out, BW.out⟩
           case measure => have := HK.out; simp [intOf]; omega
         · subst he
           clear HE
           have HM := Lib.hid hx2
           clear hx2
           have HH := Lib.hid hx3
           have hw1 : IntKind.i64.wrap (((xn : Nat) : Int) - 1) = ((xn2 : Nat) : Int) := by have := HX0.out; simp [IntKind.wrap, IntKind.bits, IntKind.signed]; omega
           have HXE := Lib.hid hx1
           clear hx1
           have hbx : Below (w6).heap.size (w6) ((w6).alloc (.cells #[.int .i64 0, .int .i64 8, .slice f2 fn2 fc2, .int .u16 (av : Nat), .int .u16 (la2 : Nat), .slice x2 xn2 xc2] 30)) := (Below.refl _ _).alloc (Nat.le_refl _) _
           replace Rm := Lib.hid (row_keep Rm.out hbx)
           replace Rq := Lib.hid (row_keep Rq.out hbx)
           replace Am := Lib.hid (Am.out.below hbx)
           replace Qm := Lib.hid (Qm.out.below hbx)
           replace BW := Lib.hid (BW.out.trans (hbx.mono BW.out.size))
           replace Qb := Lib.hid (Qb.out.below hbx)
           have Rp := Lib.hid (heap_alloc_new (w6) (.cells #[.int .i64 0, .int .i64 8, .slice f2 fn2 fc2, .int .u16 (av : Nat), .int .u16 (la2 : Nat), .slice x2 xn2 xc2] 30))
           clear hbx
           obtain ⟨lRp0c167, zRp0c167⟩ := at_cell Rp.out 0 _ rfl
           clear zRp0c167
           obtain ⟨lRp1c168, zRp1c168⟩ := at_cell Rp.out 1 _ rfl
           clear zRp1c168
           obtain ⟨lRp2c169, zRp2c169⟩ := at_cell Rp.out 2 _ rfl
           clear zRp2c169
           obtain ⟨lRp3c170, zRp3c170⟩ := at_cell Rp.out 3 _ rfl
           clear zRp3c170
           obtain ⟨lRp4c171, zRp4c171⟩ := at_cell Rp.out 4 _ rfl
           clear zRp4c171
           obtain ⟨lRp5c172, zRp5c172⟩ := at_cell Rp.out 5 _ rfl
           clear zRp5c172
           go_wp2_with fail
           refine (check8_this _ _ _ _ _ _ _ _ _ _ Qb.out).mono ?_
           rintro e w7 ⟨rfl, hb⟩
           clear lRp0c167 lRp1c168 lRp2c169 lRp3c170 lRp4c171 lRp5c172
           replace Rm := Lib.hid (row_keep Rm.out hb)
           replace Rq := Lib.hid (row_keep Rq.out hb)
           replace Am := Lib.hid (Am.out.below hb)
           replace Qm := Lib.hid (Qm.out.below hb)
           replace BW := Lib.hid (BW.out.trans (hb.mono BW.out.size))
           replace Qb := Lib.hid (Qb.out.below hb)
           replace Rp := Lib.hid (row_keep Rp.out hb)
           clear hb
           obtain ⟨lRp0c173, zRp0c173⟩ := at_cell Rp.out 0 _ rfl
           clear zRp0c173
           obtain ⟨lRp1c174, zRp1c174⟩ := at_cell Rp.out 1 _ rfl
           clear zRp1c174
           obtain ⟨lRp2c175, zRp2c175⟩ := at_cell Rp.out 2 _ rfl
           clear zRp2c175
           obtain ⟨lRp3c176, zRp3c176⟩ := at_cell Rp.out 3 _ rfl
           clear zRp3c176
           obtain ⟨lRp4c177, zRp4c177⟩ := at_cell Rp.out 4 _ rfl
           clear zRp4c177
           obtain ⟨lRp5c178, zRp5c178⟩ := at_cell Rp.out 5 _ rfl
           clear zRp5c178
           obtain ⟨lRq0c179, zRq0c179⟩ := at_cell Rq.out 0 _ rfl
           clear zRq0c179
           obtain ⟨lRq1c180, zRq1c180⟩ := at_cell Rq.out 1 _ rfl
           clear zRq1c180
           obtain ⟨lRq2c181, zRq2c181⟩ := at_cell Rq.out 2 _ rfl
           clear zRq2c181
           obtain ⟨lRq3c182, zRq3c182⟩ := at_cell Rq.out 3 _ rfl
           clear zRq3c182
           obtain ⟨lRq4c183, zRq4c183⟩ := at_cell Rq.out 4 _ rfl
           clear zRq4c183
           obtain ⟨lRq5c184, zRq5c184⟩ := at_cell Rq.out 5 _ rfl
           clear zRq5c184
           go_wp2_with fail
           refine (had8_this _ _ _ _ _ _ _ _ _ _ _ _ Qm.out HH.out).mono ?_
           rintro e w8 ⟨rfl, hb⟩
           clear lRp0c173 lRp1c174 lRp2c175 lRp3c176 lRp4c177 lRp5c178 lRq0c179 lRq1c180 lRq2c181 lRq3c182 lRq4c183 lRq5c184
           replace Rm := Lib.hid (row_keep Rm.out hb)
           replace Rq := Lib.hid (row_keep Rq.out hb)
           replace Am := Lib.hid (Am.out.below hb)
           replace Qm := Lib.hid (Qm.out.below hb)
           replace BW := Lib.hid (BW.out.trans (hb.mono BW.out.size))
           replace Qb := Lib.hid (Qb.out.below hb)
           replace Rp := Lib.hid (row_keep Rp.out hb)
           clear hb
           obtain ⟨lRp0c185, zRp0c185⟩ := at_cell Rp.out 0 _ rfl
           clear zRp0c185
           obtain ⟨lRp1c186, zRp1c186⟩ := at_cell Rp.out 1 _ rfl
           clear zRp1c186
           obtain ⟨lRp2c187, zRp2c187⟩ := at_cell Rp.out 2 _ rfl
           clear zRp2c187
           obtain ⟨lRp3c188, zRp3c188⟩ := at_cell Rp.out 3 _ rfl
           clear zRp3c188
           obtain ⟨lRp4c189, zRp4c189⟩ := at_cell Rp.out 4 _ rfl
           clear zRp4c189
           obtain ⟨lRp5c190, zRp5c190⟩ := at_cell Rp.out 5 _ rfl
           clear zRp5c190
           go_upto_region 27 with fail
           clear lRp0c185 lRp1c186 lRp2c187 lRp3c188 lRp4c189 lRp5c190 hk20 hw1
           obtain ⟨lRp0c191, zRp0c191⟩ := at_cell Rp.out 0 _ rfl
           clear zRp0c191
           obtain ⟨lRp1c192, zRp1c192⟩ := at_cell Rp.out 1 _ rfl
           clear zRp1c192
           obtain ⟨lRp2c193, zRp2c193⟩ := at_cell Rp.out 2 _ rfl
           clear zRp2c193
           obtain ⟨lRp3c194, zRp3c194⟩ := at_cell Rp.out 3 _ rfl
           clear zRp3c194
           obtain ⟨lRp4c195, zRp4c195⟩ := at_cell Rp.out 4 _ rfl
           clear zRp4c195
           obtain ⟨lRp5c196, zRp5c196⟩ := at_cell Rp.out 5 _ rfl
           clear zRp5c196
           obtain ⟨lRq0c197, zRq0c197⟩ := at_cell Rq.out 0 _ rfl
           obtain ⟨lRq1c198, zRq1c198⟩ := at_cell Rq.out 1 _ rfl
           obtain ⟨lRq2c199, zRq2c199⟩ := at_cell Rq.out 2 _ rfl
           obtain ⟨lRq3c200, zRq3c200⟩ := at_cell Rq.out 3 _ rfl
           obtain ⟨lRq4c201, zRq4c201⟩ := at_cell Rq.out 4 _ rfl
           obtain ⟨lRq5c202, zRq5c202⟩ := at_cell Rq.out 5 _ rfl
           have hlq := (Array.getElem?_eq_some_iff.1 Rq.out).1
           obtain ⟨vs203, hvs203⟩ : ∃ l : List Value, l = [.int .i64 0, .int .i64 8, .slice f2 fn2 fc2, .int .u16 (av : Nat), .int .u16 (la2 : Nat), .slice x2 xn2 xc2] := ⟨_, rfl⟩
           obtain ⟨wa203, hwa203⟩ : ∃ y, y = setAll w8 (w1.heap.size + 1) 0 vs203 := ⟨_, rfl⟩
           have Rmn := setAll_any (P := fun W => W.heap[w1.heap.size]? = _) vs203 0 w8 _ Rq.out Rm.out (fun _ _ j u _ h => one_other h ⟨w1.heap.size + 1, j, none⟩ u (show w1.heap.size + 1 ≠ w1.heap.size by omega))
           have Amn := setAll_any (P := fun W => OwnB 0 W _ _) vs203 0 w8 _ Rq.out Am.out (fun _ _ j u r h => h.stay r (by decide) j u)
           have Qmn := setAll_any (P := fun W => HQ W _ _ _ _ _ _ _ _ _) vs203 0 w8 _ Rq.out Qm.out (fun _ _ j u r h => h.stay r (by decide) (by decide) j u)
           have BWn := setAll_any (P := fun W => Below w.heap.size w W) vs203 0 w8 _ Rq.out BW.out (fun _ _ j u _ h => h.setCell (p := ⟨w1.heap.size + 1, j, none⟩) ((by show w.heap.size ≤ w1.heap.size + 1; have := HS1.out; omega)) u)
           have Qbn := setAll_any (P := fun W => HQ W _ _ _ _ _ _ _ _ _) vs203 0 w8 _ Rq.out Qb.out (fun _ _ j u r h => h.stay r (by decide) (by decide) j u)
           have Rpn := setAll_any (P := fun W => W.heap[w6.heap.size]? = _) vs203 0 w8 _ Rq.out Rp.out (fun _ _ j u _ h => one_other h ⟨w1.heap.size + 1, j, none⟩ u (show w1.heap.size + 1 ≠ w6.heap.size from Nat.ne_of_lt (by have := RN.out; exact this)))
           have Rqn := setAll_new vs203 Rq.out (by rw [hvs203]; rfl)
           rw [← hwa203] at Rmn Amn Qmn BWn Qbn Rpn Rqn
           rw [hvs203] at Rqn
           replace Rm := Lib.hid Rmn
           replace Am := Lib.hid Amn
           replace Qm := Lib.hid Qmn
           replace BW := Lib.hid BWn
           replace Qb := Lib.hid Qbn
           replace Rp := Lib.hid Rpn
           replace Rq := Lib.hid Rqn
           clear Rmn Amn Qmn BWn Qbn Rpn Rqn
           go_simp
           iterate 6 (first | go_step | go_values | go_skip | go_guarded | go_upon | go_in | go_back)
           clear lRp0c191 lRp1c192 lRp2c193 lRp3c194 lRp4c195 lRp5c196 lRq0c197 zRq0c197 lRq1c198 zRq1c198 lRq2c199 zRq2c199 lRq3c200 zRq3c200 lRq4c201 zRq4c201 lRq5c202 zRq5c202 hlq
           rw [show ((((((w8.setCell ⟨w1.heap.size + 1, 0, none⟩ (.int .i64 0)).setCell ⟨w1.heap.size + 1, 1, none⟩ (.int .i64 8)).setCell ⟨w1.heap.size + 1, 2, none⟩ (.slice f2 fn2 fc2)).setCell ⟨w1.heap.size + 1, 3, none⟩ (.int .u16 (av : Nat))).setCell ⟨w1.heap.size + 1, 4, none⟩ (.int .u16 (la2 : Nat))).setCell ⟨w1.heap.size + 1, 5, none⟩ (.slice x2 xn2 xc2)) = wa203 from by rw [hwa203, hvs203]; rfl]
           clear hwa203 hvs203
           go_wp2
           go_roundw
           case rel => exact ⟨k + 1, _, _, _, _, _, _, av, la2, q2, by have h1 := HK.out; have h2 := HM.out; omega, by go_num, Rm.out, Rq.out, Am.out, Qb.out, BW.out⟩
           case measure => have := HK.out; simp [intOf]; omega
   obtain rfl : un = j := by omega
   clear hge
   go_wp2_with fail
   refine (heads_any _).mono ?_
   rintro e w9 ⟨rfl, hb⟩
   replace Rm := Lib.hid (row_keep Rm.out hb)
   replace Rq := Lib.hid (row_keep Rq.out hb)
   replace Am := Lib.hid (Am.out.below hb)
   replace Qm := Lib.hid (Qm.out.below hb)
   replace BW := Lib.hid (BW.out.trans (hb.mono BW.out.size))
   clear hb
   go_wp2
   go_ret
   exact ⟨rfl, BW.out⟩
set_option maxHeartbeats 1000000 in
set_option maxRecDepth 100000 in
theorem queueHostile_o1 (w : World) (v : Value) (l : List Int) (hv : IsInts w v l) (u : Value) (t : List (Nat × Nat)) (hu : IsUseds w u t) (o : Value) (s : List Nat) (hj : IsHalves w o s) (hc : 8 < l.length ∧ t.length = t.length ∧ s.length = s.length) :
 Calls Tryz.prog 4 #[v, u, o] w fun e w' => e = .returned (.bool true) ∧ Below w.heap.size w w' := by
 obtain ⟨va, vn, vc, rfl, hvn⟩ : ∃ a n c, v = .slice a n c ∧ n = l.length := by obtain ⟨a, c, h, _⟩ := hv.1.shape; exact ⟨a, _, c, h, rfl⟩
 obtain ⟨ua, un, uc, rfl, hun⟩ := hu.shape
 obtain ⟨ja, jn, jc, rfl, hjn⟩ := hj.shape
 rw [← hvn, ← hun, ← hjn] at hc
 clear hvn hun hjn hv hu hj
 have d1 : decide ((8 : Int) < ((vn : Nat) : Int)) = true := decide_eq_true (by omega)
 go_enter Tryz.func4, Tryz.ntmps4
 go_wp2_with fail
 refine (heads_any _).mono ?_
 rintro e w1 ⟨rfl, hb⟩
 go_wp2
 go_ret
 exact ⟨rfl, hb⟩
set_option maxHeartbeats 1000000 in
set_option maxRecDepth 100000 in
theorem queueHostile_o2 (w : World) (v : Value) (l : List Int) (hv : IsInts w v l) (u : Value) (t : List (Nat × Nat)) (hu : IsUseds w u t) (o : Value) (s : List Nat) (hj : IsHalves w o s) (hc : l.length ≤ 8 ∧ 60 < t.length ∧ s.length = s.length) :
 Calls Tryz.prog 4 #[v, u, o] w fun e w' => e = .returned (.bool true) ∧ Below w.heap.size w w' := by
 obtain ⟨va, vn, vc, rfl, hvn⟩ : ∃ a n c, v = .slice a n c ∧ n = l.length := by obtain ⟨a, c, h, _⟩ := hv.1.shape; exact ⟨a, _, c, h, rfl⟩
 obtain ⟨ua, un, uc, rfl, hun⟩ := hu.shape
 obtain ⟨ja, jn, jc, rfl, hjn⟩ := hj.shape
 rw [← hvn, ← hun, ← hjn] at hc
 clear hvn hun hjn hv hu hj
 have d1 : decide ((8 : Int) < ((vn : Nat) : Int)) = false := decide_eq_false (by omega)
 have d2 : decide ((60 : Int) < ((un : Nat) : Int)) = true := decide_eq_true (by omega)
 go_enter Tryz.func4, Tryz.ntmps4
 go_wp2_with fail
 refine (heads_any _).mono ?_
 rintro e w1 ⟨rfl, hb⟩
 go_wp2
 go_ret
 exact ⟨rfl, hb⟩
set_option maxHeartbeats 1000000 in
set_option maxRecDepth 100000 in
theorem queueHostile_o3 (w : World) (v : Value) (l : List Int) (hv : IsInts w v l) (u : Value) (t : List (Nat × Nat)) (hu : IsUseds w u t) (o : Value) (s : List Nat) (hj : IsHalves w o s) (hc : l.length ≤ 8 ∧ t.length ≤ 60 ∧ s.length < t.length) :
 Calls Tryz.prog 4 #[v, u, o] w fun e w' => e = .returned (.bool true) ∧ Below w.heap.size w w' := by
 obtain ⟨va, vn, vc, rfl, hvn⟩ : ∃ a n c, v = .slice a n c ∧ n = l.length := by obtain ⟨a, c, h, _⟩ := hv.1.shape; exact ⟨a, _, c, h, rfl⟩
 obtain ⟨ua, un, uc, rfl, hun⟩ := hu.shape
 obtain ⟨ja, jn, jc, rfl, hjn⟩ := hj.shape
 rw [← hvn, ← hun, ← hjn] at hc
 clear hvn hun hjn hv hu hj
 have d1 : decide ((8 : Int) < ((vn : Nat) : Int)) = false := decide_eq_false (by omega)
 have d2 : decide ((60 : Int) < ((un : Nat) : Int)) = false := decide_eq_false (by omega)
 have d3 : decide (((jn : Nat) : Int) < ((un : Nat) : Int)) = true := decide_eq_true (by omega)
 go_enter Tryz.func4, Tryz.ntmps4
 go_wp2_with fail
 refine (heads_any _).mono ?_
 rintro e w1 ⟨rfl, hb⟩
 go_wp2
 go_ret
 exact ⟨rfl, hb⟩
theorem queueHostile_law (w : World) (v : Value) (l : List Int) (hv : IsInts w v l) (u : Value) (t : List (Nat × Nat)) (hu : IsUseds w u t) (o : Value) (s : List Nat) (hj : IsHalves w o s) :
 Calls Tryz.prog 4 #[v, u, o] w fun e w' => e = .returned (.bool true) ∧ Below w.heap.size w w' := by
 by_cases h1 : 8 < l.length
 · exact queueHostile_o1 w v l hv u t hu o s hj ⟨h1, rfl, rfl⟩
 by_cases h2 : 60 < t.length
 · exact queueHostile_o2 w v l hv u t hu o s hj ⟨by omega, h2, rfl⟩
 by_cases h3 : s.length < t.length
 · exact queueHostile_o3 w v l hv u t hu o s hj ⟨by omega, by omega, h3⟩
 · exact queueHostile_main w v l hv u t hu o s hj ⟨by omega, by omega, by omega⟩
end Go.Proofs.YtnmekbbnglkmcaaGreat
namespace Go.Proofs.YtnmekbbnglkmcaaGreat
open Go.RowKit Go.Lib Go.ChangeShapes Go.WideShapes
def intOfCell : Value → Int
 | .int _ z => z
 | _ => 0
def IsRows (w : World) (v : Value) (n : Nat) (V : Nat → Value) (Z : Nat → List UInt8) : Prop :=
 ∃ a c, v = .slice a n c ∧ n ≤ c ∧ c ≤ maxLen ∧ (0 < n → ∃ ad, a = some ad ∧ ∀ i, i < n → w.cell? (ad.add i) = some (V i)) ∧ ∀ i, i < n → IsArg w (V i) (Z i)
theorem IsRows.below {w w' : World} {v : Value} {n : Nat} {V : Nat → Value} {Z : Nat → List UInt8} (h : IsRows w v n V Z) (hb : Below w.heap.size w w') : IsRows w' v n V Z := by
 obtain ⟨a, c, h1, h2, h3, h4, h5⟩ := h
 refine ⟨a, c, h1, h2, h3, fun h0 => ?_, fun i hi => (h5 i hi).below hb⟩
 obtain ⟨ad, e1, e3⟩ := h4 h0
 exact ⟨ad, e1, fun i hi => (hb.cell (World.block_lt_of_cell? w _ (e3 i hi))).trans (e3 i hi)⟩
end Go.Proofs.YtnmekbbnglkmcaaGreat
namespace Go.Proofs.YtnmekbbnglkmcaaGreat
open Go.RowKit Go.Lib Go.ChangeShapes Go.WideShapes
section
variable {H : Type} {enc : TypeId × Value → H} {P : Program} {w : World} {base : Nat} {held : Bool}
theorem range_at {α : Type} (f : Nat → α) {n i : Nat} (h : i < n) : ((List.range n).map f)[i]? = some (f i) := by
 rw [List.getElem?_map, List.getElem?_range h]
 rfl
end
theorem open_numbers {H : Type} {enc : TypeId × Value → H} {P : Program} {w : World} {base : Nat} {held : Bool} {r : Reach} {b0 : Nat} {t e : TypeId} {v : Value} {d : DataW H} {ps : List MemPlace}
 (ht : P.underlying t = some (.slice e)) (he : P.underlying e = some (.int .i64)) (hc : P.cellsOf e = 1) (hval : Value.okWide P w r b0 t v) (hd : DataW.Trod enc P w base (fun _ => true) held t v d ps) : ∃ l, IsInts w v l := by
 obtain ⟨a, n, c, rfl⟩ := okWide_slice ht hval
 obtain ⟨fuel, hf⟩ := hd
 rcases open_ints ht he hc hf with ⟨hcs, _⟩ | ⟨ad, len, cap, zs, hcs, _, hl, hm, hz, _, hcell, hwz⟩
 · have h : Value.slice a n c = .slice none 0 0 := by simpa [Value.cells] using hcs
   rw [h]
   exact ⟨[], .inl ⟨rfl, rfl, rfl⟩, fun z hz => by simp at hz⟩
 · have h : Value.slice a n c = .slice (some ad) len cap := by simpa [Value.cells] using hcs
   rw [h]
   have hz : zs.length = cap := by simpa using hz
   have hlt : (zs.take len).length = len := by simp; omega
   refine ⟨zs.take len, .inr ⟨ad, cap, by rw [hlt], by rw [hlt]; exact hl, hm, fun j u hu => ?_⟩, fun z hz' => ?_⟩
   · have hj : j < len := by
      have h9 := (List.getElem?_eq_some_iff.1 hu).1
      rw [List.length_map, hlt] at h9
      exact h9
     rw [hcell j (by omega), ← hu]
     simp [hj, show j < zs.length by omega]
   · exact bounds_i64 (hwz z (List.mem_of_mem_take hz'))
end Go.Proofs.YtnmekbbnglkmcaaGreat
namespace Go.Proofs.YtnmekbbnglkmcaaGreat
open Go.RowKit Go.Lib Go.ChangeShapes Go.WideShapes
theorem open_useds {H : Type} {enc : TypeId × Value → H} {P : Program} {w : World} {base : Nat} {held : Bool} {r : Reach} {b0 : Nat} {t e : TypeId} {f0 f1 : Field} {v : Value} {d : DataW H} {ps : List MemPlace}
 (ht : P.underlying t = some (.slice e)) (he : P.underlying e = some (.struct #[f0, f1])) (hce : P.cellsOf e = 2)
 (h0 : P.underlying f0.type = some (.int .u32)) (o0 : f0.offset = 0) (c0 : P.cellsOf f0.type = 1) (h1 : P.underlying f1.type = some (.int .u32)) (o1 : f1.offset = 1) (c1 : P.cellsOf f1.type = 1)
 (hval : Value.okWide P w r b0 t v) (hd : DataW.Trod enc P w base (fun _ => true) held t v d ps) : ∃ l, IsUseds w v l := by
 obtain ⟨a, nn, c, rfl⟩ := okWide_slice ht hval
 obtain ⟨fuel, hf⟩ := hd
 rcases Go.Deep.open_slice ht hf with ⟨hcs, _⟩ | ⟨ad, len, cap, m, n, D, Pl, hcs, _, hl, hm, hmm, _, hx⟩
 · have h : Value.slice a nn c = .slice none 0 0 := by simpa [Value.cells] using hcs
   rw [h]
   exact ⟨[], useds_nil w⟩
 · have h : Value.slice a nn c = .slice (some ad) len cap := by simpa [Value.cells] using hcs
   rw [h]
   simp only [if_true] at hmm
   have each : ∀ i, i < len → ∃ y : Nat × Nat, w.cell? (ad.add (i * 2)) = some (.int .u32 ((y.1 : Nat) : Int)) ∧ w.cell? (ad.add (i * 2 + 1)) = some (.int .u32 ((y.2 : Nat) : Int)) ∧ y.1 < 4294967296 ∧ y.2 < 4294967296 := fun i hi => by
    obtain ⟨cs', hc, ht'⟩ := hx i (by omega)
    rw [hce] at hc
    obtain ⟨_, hcl, hat⟩ := World.cells?_some hc
    obtain ⟨ys, n', _, _, _, hyl, hf⟩ := DataW.trod_struct he ht'
    obtain ⟨u, V, rfl⟩ : ∃ u V, cs' = [u, V] := by
     match cs', hcl with
     | [u, V], _ => exact ⟨u, V, rfl⟩
    have e0 := hf 0 f0 rfl
    have e1 := hf 1 f1 rfl
    rw [o0, c0] at e0
    rw [o1, c1] at e1
    have y0 : ys[0]? = some (ys[0]'(by rw [hyl]; simp)) := List.getElem?_eq_getElem _
    have y1 : ys[1]? = some (ys[1]'(by rw [hyl]; simp)) := List.getElem?_eq_getElem _
    rw [y0] at e0
    rw [y1] at e1
    obtain ⟨z, hz, _, w0⟩ := DataW.trod_int h0 e0
    obtain ⟨z1, hz1, _, w1⟩ := DataW.trod_int h1 e1
    obtain rfl : u = .int .u32 z := by simpa using hz
    obtain rfl : V = .int .u32 z1 := by simpa using hz1
    have b0 := bounds_u32 w0
    have b1 := bounds_u32 w1
    obtain ⟨z, rfl⟩ := Int.eq_ofNat_of_zero_le b0.1
    obtain ⟨z1, rfl⟩ := Int.eq_ofNat_of_zero_le b1.1
    have a0 := hat 0 (by decide)
    have a1 := hat 1 (by decide)
    rw [Addr.add_zero'] at a0
    rw [Addr.add_add] at a1
    exact ⟨(z, z1), a0, a1, by simp only; omega, by simp only; omega⟩
   obtain ⟨f, hf⟩ : ∃ f : Nat → Nat × Nat, ∀ i, i < len → w.cell? (ad.add (i * 2)) = some (.int .u32 (((f i).1 : Nat) : Int)) ∧ w.cell? (ad.add (i * 2 + 1)) = some (.int .u32 (((f i).2 : Nat) : Int)) ∧ (f i).1 < 4294967296 ∧ (f i).2 < 4294967296 :=
    ⟨fun i => if hi : i < len then (each i hi).choose else (0, 0), fun i hi => by simp only [dif_pos hi]; exact (each i hi).choose_spec⟩
   refine ⟨(List.range len).map f, .inr ⟨ad, cap, by simp, by simpa using hl, hm, fun j hj => ?_⟩⟩
   have hj : j < len := by simpa using hj
   rw [List.getD_eq_getElem?_getD, range_at f hj]
   exact hf j hj
theorem open_halves {H : Type} {enc : TypeId × Value → H} {P : Program} {w : World} {base : Nat} {held : Bool} {r : Reach} {b0 : Nat} {t e : TypeId} {v : Value} {d : DataW H} {ps : List MemPlace}
 (ht : P.underlying t = some (.slice e)) (he : P.underlying e = some (.int .u16)) (hc : P.cellsOf e = 1) (hval : Value.okWide P w r b0 t v) (hd : DataW.Trod enc P w base (fun _ => true) held t v d ps) : ∃ l, IsHalves w v l := by
 obtain ⟨a, n, c, rfl⟩ := okWide_slice ht hval
 obtain ⟨fuel, hf⟩ := hd
 rcases open_ints ht he hc hf with ⟨hcs, _⟩ | ⟨ad, len, cap, zs, hcs, _, hl, hm, hz, _, hcell, hwz⟩
 · have h : Value.slice a n c = .slice none 0 0 := by simpa [Value.cells] using hcs
   rw [h]
   exact ⟨[], halves_nil w⟩
 · have h : Value.slice a n c = .slice (some ad) len cap := by simpa [Value.cells] using hcs
   rw [h]
   have hz : zs.length = cap := by simpa using hz
   refine ⟨(zs.take len).map Int.toNat, .inr ⟨ad, cap, by simp; omega, by simp; omega, hm, fun j hj => ?_⟩⟩
   have hj : j < len := by simp at hj; omega
   have hjz : j < zs.length := by omega
   have e1 : ((zs.take len).map Int.toNat).getD j 0 = (zs.getD j 0).toNat := by
    rw [List.getD_eq_getElem?_getD, List.getD_eq_getElem?_getD, List.getElem?_map, List.getElem?_take, if_pos hj, List.getElem?_eq_getElem hjz]
    rfl
   have hmem : zs.getD j 0 ∈ zs := by
    rw [List.getD_eq_getElem?_getD, List.getElem?_eq_getElem hjz]
    exact List.getElem_mem _
   have hb := bounds_u16 (hwz _ hmem)
   rw [e1]
   refine ⟨?_, by omega⟩
   rw [hcell j hjz, Int.toNat_of_nonneg hb.1]
end Go.Proofs.YtnmekbbnglkmcaaGreat
