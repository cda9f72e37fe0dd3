/- The document's own answers of rings: what is written; all of them together. -/
import Derived.Test.YtofeiheomnpggaaRngN
namespace Go.Proofs.Ytofeiheomnpggaa
open Go.RowKit Go.Lib

/-- Memory in its box, that numbers were put into. -/
structure RSt (w : World) (v : Value) (l : List UInt8) (ra : Option Addr) (rc : Nat) (G : List UInt8) (W : World) : Prop where
  out : Below w.heap.size w W
  mem : W.heap[w.heap.size]? = some (.cells #[.slice ra l.length rc] 28 (0, 0))
  giv : Given W w.heap.size v l (.slice ra l.length rc) G
  len : G.length = l.length
theorem RSt.next {w W W1 : World} {v : Value} {l G G' : List UInt8} {ra ra' : Option Addr} {rc rc' : Nat} (h : RSt w v l ra rc G W) (hb : Below W.heap.size W W1) (hg : Given W1 w.heap.size v l (.slice ra' l.length rc') G') (hl : G'.length = l.length) : RSt w v l ra' rc' G' (W1.setCell ⟨w.heap.size, 0, none⟩ (.slice ra' l.length rc')) where
  out := (h.out.trans (hb.mono h.out.size)).setCell (Nat.le_refl _) _
  mem := one_set (row_keep h.mem hb) _
  giv := hg.far (row_keep h.mem hb) tneMU _
  len := hl

set_option maxHeartbeats 4000000 in
set_option maxRecDepth 100000 in
theorem refSetDesc_in (v : Value) (l : List UInt8) (w : World) (hv : IsArg w v l) (B N : Nat) (hok : RingOk l.length B N) (I : Nat) (hI : I < N) (a n f x : Nat) (ha : a < 18446744073709551616) (hn : n < 4294967296) (hf : f < 65536) (hx : x < 65536) (p : Nat) (hp : B + 16 * I = p) :
    Calls Try.prog 17 #[.agg #[v], .int .i64 (B : Nat), .int .i64 (N : Nat), .int .i64 (I : Nat), .agg #[.int .u64 (a : Nat), .int .u32 (n : Nat), .int .u16 (f : Nat), .int .u16 (x : Nat)]] w (Wrote w v l (setD l p a n f x) 0) := by
  have hN := hok.right.le
  have hsz := sizeN_le N
  have hfit := hok.fits
  have hL := hok.few
  have HL := Lib.hid hL
  have HNN := Lib.hid hN
  have HMX := Lib.hid (show l.length ≤ maxLen by unfold maxLen; omega)
  have HC := Lib.hid hok.ok
  have HV := Lib.hid hv
  obtain ⟨va, vc, rfl, _⟩ := hv.shape
  obtain ⟨t1, t2, t3, t4⟩ := three_new w (.slice va l.length vc) #[.int .u64 (a : Nat), .int .u32 (n : Nat), .int .u16 (f : Nat), .int .u16 (x : Nat)] (.slice none 0 0) 28 44 28
  have HB := Lib.hid t4
  have HM := Lib.hid t1
  have HD := Lib.hid t2
  have HR := Lib.hid t3
  clear t1 t2 t3 t4
  obtain ⟨q, hq⟩ : ∃ q, q = 16 * I := ⟨_, rfl⟩
  obtain ⟨p1, hp1⟩ : ∃ q, q = p + 8 := ⟨_, rfl⟩
  obtain ⟨p2, hp2⟩ : ∃ q, q = p + 12 := ⟨_, rfl⟩
  obtain ⟨p3, hp3⟩ : ∃ q, q = p + 14 := ⟨_, rfl⟩
  have hsd : setD l p a n f x = putAt (putAt (putAt (putAt l p 8 a) p1 4 n) p2 2 f) p3 2 x := by rw [setD, hp1, hp2, hp3]
  rw [hsd]
  have HPL := Lib.hid (show p + 16 ≤ l.length ∧ p1 = p + 8 ∧ p2 = p + 12 ∧ p3 = p + 14 by omega)
  have e1 : (16 : Int) * (I : Nat) = (q : Nat) := by omega
  have e2 : (B : Int) + (q : Nat) = (p : Nat) := by omega
  have e3 : (p : Int) + 8 = (p1 : Nat) := by omega
  have e4 : (p : Int) + 12 = (p2 : Nat) := by omega
  have e5 : (p : Int) + 14 = (p3 : Nat) := by omega
  have q1 : q ≤ 1000 := by omega
  have q2 : p ≤ 9000 := by omega
  have i1 : I ≤ 16 := by omega
  have k1 : IntKind.u64.wrap ((n : Nat) : Int) = (n : Nat) := IntWalk.u64_in _ (by omega)
  have k2 : IntKind.u64.wrap ((f : Nat) : Int) = (f : Nat) := IntWalk.u64_in _ (by omega)
  have k3 : IntKind.u64.wrap ((x : Nat) : Int) = (x : Nat) := IntWalk.u64_in _ (by omega)
  have d1' : decide (((I : Nat) : Int) < 0) = false := decide_eq_false (by omega)
  have d2' : decide (N ≤ I) = false := decide_eq_false (by omega)
  have d3' : decide (((N : Nat) : Int) ≤ ((I : Nat) : Int)) = false := decide_eq_false (by omega)
  clear hI hp hq hp1 hp2 hp3 hsd
  clear hN hsz hfit hL hok hv
  go_enter Try.func17, Try.ntmps17
  go_wp2_with fail
  refine (refRingCheck_any _ _ _ HMX.out _ _ true HC.out _).mono ?_
  rintro e w1 ⟨rfl, hb⟩
  replace HM := Lib.hid (row_keep HM.out hb)
  replace HR := Lib.hid (row_keep HR.out hb)
  replace HD := Lib.hid (row_keep HD.out hb)
  replace HB := Lib.hid (HB.out.trans (hb.mono HB.out.size))
  clear hb
  have HS := Lib.hid (show RSt w (.slice va l.length vc) l va vc l w1 from { out := HB.out, mem := HM.out, giv := .inl ⟨rfl, rfl⟩, len := rfl })
  obtain ⟨d0, _⟩ := at_cell HD.out 0 _ rfl
  obtain ⟨c0, _⟩ := one_cell HS.out.mem
  go_wp2_with fail
  refine (refPut_step HV.out HS.out.out HS.out.giv HS.out.len p 8 a (by omega) HL.out (by have := HPL.out; omega) (by decide) (by decide)).mono ?_
  rintro e w2 ⟨ra0, rc0, rfl, hg, hl, hb⟩
  clear c0 d0
  have hm := row_keep HS.out.mem hb
  obtain ⟨m0, n0⟩ := one_cell hm
  replace HD := Lib.hid (one_other (row_keep HD.out hb) ⟨w.heap.size, 0, none⟩ (.slice ra0 l.length rc0) (blocks_ne (row_keep HD.out hb) hm tneDM.symm))
  replace HR := Lib.hid (one_other (row_keep HR.out hb) ⟨w.heap.size, 0, none⟩ (.slice ra0 l.length rc0) (by simp))
  replace HS := Lib.hid (HS.out.next hb hg hl)
  clear hm hg hl hb
  obtain ⟨d1, _⟩ := at_cell HD.out 1 _ rfl
  obtain ⟨c1, _⟩ := one_cell HS.out.mem
  go_wp2_with fail
  refine (refPut_step HV.out HS.out.out HS.out.giv HS.out.len p1 4 n (by omega) HL.out (by have := HPL.out; omega) (by decide) (by decide)).mono ?_
  rintro e w3 ⟨ra1, rc1, rfl, hg, hl, hb⟩
  clear m0 n0
  clear c1 d1
  have hm := row_keep HS.out.mem hb
  obtain ⟨m1, n1⟩ := one_cell hm
  replace HD := Lib.hid (one_other (row_keep HD.out hb) ⟨w.heap.size, 0, none⟩ (.slice ra1 l.length rc1) (blocks_ne (row_keep HD.out hb) hm tneDM.symm))
  replace HR := Lib.hid (one_other (row_keep HR.out hb) ⟨w.heap.size, 0, none⟩ (.slice ra1 l.length rc1) (by simp))
  replace HS := Lib.hid (HS.out.next hb hg hl)
  clear hm hg hl hb
  obtain ⟨d2, _⟩ := at_cell HD.out 2 _ rfl
  obtain ⟨c2, _⟩ := one_cell HS.out.mem
  go_wp2_with fail
  refine (refPut_step HV.out HS.out.out HS.out.giv HS.out.len p2 2 f (by omega) HL.out (by have := HPL.out; omega) (by decide) (by decide)).mono ?_
  rintro e w4 ⟨ra2, rc2, rfl, hg, hl, hb⟩
  clear m1 n1
  clear c2 d2
  have hm := row_keep HS.out.mem hb
  obtain ⟨m2, n2⟩ := one_cell hm
  replace HD := Lib.hid (one_other (row_keep HD.out hb) ⟨w.heap.size, 0, none⟩ (.slice ra2 l.length rc2) (blocks_ne (row_keep HD.out hb) hm tneDM.symm))
  replace HR := Lib.hid (one_other (row_keep HR.out hb) ⟨w.heap.size, 0, none⟩ (.slice ra2 l.length rc2) (by simp))
  replace HS := Lib.hid (HS.out.next hb hg hl)
  clear hm hg hl hb
  obtain ⟨d3, _⟩ := at_cell HD.out 3 _ rfl
  obtain ⟨c3, _⟩ := one_cell HS.out.mem
  go_wp2_with fail
  refine (refPut_step HV.out HS.out.out HS.out.giv HS.out.len p3 2 x (by omega) HL.out (by have := HPL.out; omega) (by decide) (by decide)).mono ?_
  rintro e w5 ⟨ra3, rc3, rfl, hg, hl, hb⟩
  clear m2 n2
  clear c3 d3
  have HR5 := Lib.hid (row_keep HR.out hb)
  have HB5 := Lib.hid (HS.out.out.trans (hb.mono HS.out.out.size))
  have HG5 := Lib.hid hg
  obtain ⟨r0, f0⟩ := one_cell HR5.out
  clear hg hl hb
  go_wp2
  refine bodyPost_ret (v := .tuple #[.agg #[.slice ra3 l.length rc3], .int .i64 0]) (by simp [results, Try.results17, go_sem, r0]) rfl ⟨ra3, rc3, rfl, HG5.out.far HR5.out tneMU _, HB5.out.setCell (by simp; omega) _⟩
structure RngRefOfferX where
  b0 : Bool
  b1 : Bool
  b2 : Bool
  b3 : Bool
  b4 : Bool
  b5 : Bool
  b6 : Bool
  b7 : Bool
  b8 : Bool
  b9 : Bool
  b10 : Bool
  b11 : Bool
  b12 : Bool
  b13 : Bool
  b14 : Bool
  b15 : Bool
  s18 : Value
  s19 : Value
  s20 : Value
  s21 : Value
  s22 : Value
  s23 : Value
  s24 : Value
  s25 : Value
  s26 : Value
  s27 : Value
  s28 : Value
  s29 : Value
  s30 : Value
  s31 : Value
  s32 : Value
structure RngRefOfferBX where
  b0 : Bool
  b1 : Bool
  b2 : Bool
  b3 : Bool
  b4 : Bool
  b5 : Bool
  b6 : Bool
  b7 : Bool
  b8 : Bool
  b9 : Bool
  b10 : Bool
  b11 : Bool
  s33 : Value
  s34 : Value
  s35 : Value
  s36 : Value
  s37 : Value
  s38 : Value
  s39 : Value
  s40 : Value
  s41 : Value
  s42 : Value
  s11 : Value

set_option maxHeartbeats 4000000 in
set_option maxRecDepth 100000 in
theorem refOffer_in (v : Value) (l : List UInt8) (w : World) (hv : IsArg w v l) (B N : Nat) (hok : RingOk l.length B N) (k : Nat) (hk : k < 65536) (h : Int) (p : Nat) (hp : B + 16 * N + 4 + 2 * (k % N) = p) :
    Calls Try.prog 19 #[.agg #[v], .int .i64 (B : Nat), .int .i64 (N : Nat), .int .u16 (k : Nat), .int .i64 h] w (Wrote w v l (offerD l B N k (h % 65536).toNat) 0) := by
  have hN := hok.right.le
  have hsz := sizeN_le N
  have hfit := hok.fits
  have hL := hok.few
  have HL := Lib.hid hL
  have HNN := Lib.hid hN
  have HMX := Lib.hid (show l.length ≤ maxLen by unfold maxLen; omega)
  have HC := Lib.hid hok.ok
  have HV := Lib.hid hv
  obtain ⟨va, vc, rfl, _⟩ := hv.shape
  have HB := Lib.hid (((Below.refl w.heap.size w).alloc (Nat.le_refl _) (.cells #[.slice va l.length vc] 28)).alloc (by simp) (.cells #[.slice none 0 0] 28))
  have HM := Lib.hid (row_keep (heap_alloc_new w (.cells #[.slice va l.length vc] 28)) ((Below.refl _ _).alloc (Nat.le_refl _) (.cells #[.slice none 0 0] 28)))
  have HR := Lib.hid (show ((w.alloc (.cells #[.slice va l.length vc] 28)).alloc (.cells #[.slice none 0 0] 28)).heap[w.heap.size + 1]? = some (.cells #[.slice none 0 0] 28) by simpa using heap_alloc_new (w.alloc (.cells #[.slice va l.length vc] 28)) (.cells #[.slice none 0 0] 28))
  obtain ⟨f1, hf1⟩ : ∃ q, q = 16 * N := ⟨_, rfl⟩
  obtain ⟨c1, hc1⟩ : ∃ q, q = B + f1 := ⟨_, rfl⟩
  obtain ⟨c2, hc2⟩ : ∃ q, q = c1 + 4 := ⟨_, rfl⟩
  have e2 : (B : Int) + (f1 : Nat) = (c1 : Nat) := by omega
  have e3 : (c1 : Int) + 4 = (c2 : Nat) := by omega
  have q1 : f1 ≤ 1000 := by omega
  have q2 : c1 ≤ 9000 := by omega
  have hwrc1 : IntKind.i64.wrap ((c1 : Nat) : Int) = (c1 : Nat) := IntWalk.i64_in _ (by omega)
  have hwrc2 : IntKind.i64.wrap ((c2 : Nat) : Int) = (c2 : Nat) := IntWalk.i64_in _ (by omega)
  have HF := Lib.hid (show ∀ W, Calls Try.prog 45 #[.int .i64 (N : Nat)] W fun e w' => e = .returned (.int .i64 (f1 : Nat)) ∧ w' = W from fun W => refFirst_any N f1 hf1.symm hN.2 W)
  obtain ⟨j, hj⟩ : ∃ j, k % N = j := ⟨_, rfl⟩
  have hjn : j < N := by rw [← hj]; exact Nat.mod_lt _ (by omega)
  rw [hj] at hp
  obtain ⟨q, hq⟩ : ∃ q, q = 2 * j := ⟨_, rfl⟩
  have htm : ((k : Nat) : Int).tmod ((N : Nat) : Int) = (j : Nat) := by rw [Int.tmod_eq_emod_of_nonneg (by omega)]; omega
  have hz : ¬ (N = 0) := by omega
  have hwj : IntKind.i64.wrap ((j : Nat) : Int) = (j : Nat) := IntWalk.i64_in _ (by omega)
  have hwk : IntKind.i64.wrap ((k : Nat) : Int) = (k : Nat) := IntWalk.i64_in _ (by omega)
  have hem : (k : Int) % (N : Nat) = (j : Nat) := by omega
  have e6 : (2 : Int) * (j : Nat) = (q : Nat) := by omega
  have e7 : (c2 : Int) + (q : Nat) = (p : Nat) := by omega
  have q3 : j ≤ 16 := by omega
  have q4 : q ≤ 1000 := by omega
  have hwrq : IntKind.i64.wrap ((q : Nat) : Int) = (q : Nat) := IntWalk.i64_in _ (by omega)
  have hwrp : IntKind.i64.wrap ((p : Nat) : Int) = (p : Nat) := IntWalk.i64_in _ (by omega)
  obtain ⟨kk, hkk⟩ : ∃ q, q = k + 1 := ⟨_, rfl⟩
  obtain ⟨ix, hix⟩ : ∃ q, q = c1 + 2 := ⟨_, rfl⟩
  have e8 : (c1 : Int) + 2 = (ix : Nat) := by omega
  have e9' : ((k : Nat) : Int) + 1 = (kk : Nat) := by omega
  have k1 : IntKind.u64.wrap ((k : Nat) : Int) = (k : Nat) := IntWalk.u64_in _ (by omega)
  have k2 : IntKind.u64.wrap ((kk : Nat) : Int) = (kk : Nat) := IntWalk.u64_in _ (by omega)
  have k3 : IntKind.u64.wrap (((k : Nat) : Int) + 1) = (kk : Nat) := by rw [e9']; exact k2
  have hwrix : IntKind.i64.wrap ((ix : Nat) : Int) = (ix : Nat) := IntWalk.i64_in _ (by omega)
  obtain ⟨zz, hzz⟩ : ∃ q : Nat, q = (h % 18446744073709551616).toNat := ⟨_, rfl⟩
  have kz : IntKind.u64.wrap h = (zz : Nat) := by rw [wrap64u]; omega
  obtain ⟨G1, hG1⟩ : ∃ G, G = putAt l p 2 zz := ⟨_, rfl⟩
  have hG1l : G1.length = l.length := by rw [hG1]; exact putAt_length zz (by omega)
  obtain ⟨H, hH⟩ : ∃ H, H = putAt G1 ix 2 kk := ⟨_, rfl⟩
  have hHH : offerD l B N k (h % 65536).toNat = H := by
    rw [hH, hG1, offerD, hj, show B + 16 * N + 4 + 2 * j = p by omega, show B + 16 * N + 2 = ix by omega, hkk, putAt_mod l p 2 (show (h % 65536).toNat % 256 ^ 2 = zz % 256 ^ 2 by omega)]
  rw [hHH]
  have HPT0 := Lib.hid (show ∀ W, Below w.heap.size w W → Calls Try.prog 44 #[.agg #[.slice va l.length vc], .int .i64 (p : Nat), .int .i64 2, .int .u64 (zz : Nat)] W fun e w' => ∃ ra rc, e = .returned (.agg #[.slice ra l.length rc]) ∧ Given w' w.heap.size (.slice va l.length vc) l (.slice ra l.length rc) G1 ∧ Below W.heap.size W w' from
    fun W hb => (refPut_step hv hb (.inl ⟨rfl, rfl⟩) rfl p 2 zz (by omega) hL (by omega) (by decide) (by decide)).mono fun e w' ⟨ra, rc, g1, g2, _, g4⟩ => ⟨ra, rc, g1, by rw [hG1]; exact g2, g4⟩)
  have HPT1 := Lib.hid (show ∀ (ra : Option Addr) (rc : Nat) W, Below w.heap.size w W → Given W w.heap.size (.slice va l.length vc) l (.slice ra l.length rc) G1 → Calls Try.prog 44 #[.agg #[.slice ra l.length rc], .int .i64 (ix : Nat), .int .i64 2, .int .u64 (kk : Nat)] W fun e w' => ∃ sa sc, e = .returned (.agg #[.slice sa l.length sc]) ∧ Given w' w.heap.size (.slice va l.length vc) l (.slice sa l.length sc) H ∧ Below W.heap.size W w' from
    fun ra rc W hb hg => (refPut_step hv hb hg hG1l ix 2 kk (by omega) hL (by omega) (by decide) (by decide)).mono fun e w' ⟨sa, sc, g1, g2, _, g4⟩ => ⟨sa, sc, g1, by rw [hH]; exact g2, g4⟩)
  clear hf1 hc1 hc2 hk hj hq hjn hp hkk hix e9' hzz hG1 hG1l hH hHH
  clear hN hsz hfit hL hok hv
  go_enter Try.func19, Try.ntmps19
  go_wp2_with fail
  refine (refRingCheck_any _ _ _ HMX.out _ _ true HC.out _).mono ?_
  rintro e w1 ⟨rfl, hb⟩
  replace HM := Lib.hid (row_keep HM.out hb)
  replace HR := Lib.hid (row_keep HR.out hb)
  replace HB := Lib.hid (HB.out.trans (hb.mono HB.out.size))
  clear hb
  go_wp2_with fail
  refine wp_region_rec (X := RngRefOfferX) (by kernel_rfl) (by kernel_rfl) (fun x => #[x.b0, x.b1, x.b2, x.b3, x.b4, x.b5, x.b6, x.b7, x.b8, x.b9, x.b10, x.b11, x.b12, x.b13, x.b14, x.b15]) (fun x => { tmps := List.toArray ((Value.agg #[Value.slice va l.length vc]) :: (Value.int IntKind.i64 ↑B) :: (Value.int IntKind.i64 ↑N) :: (Value.int IntKind.u16 ↑k) :: (Value.int IntKind.i64 h) :: (Value.pointer (some ⟨w.heap.size, 0, none⟩)) :: undef :: undef :: undef :: undef :: (Value.pointer (some ⟨w.heap.size + 1, 0, none⟩)) :: (Value.int IntKind.i64 0) :: (Value.agg #[Value.slice va l.length vc]) :: (Value.int IntKind.i64 ↑B) :: (Value.int IntKind.i64 ↑N) :: (Value.bool true) :: (Value.bool false) :: undef :: x.s18 :: x.s19 :: x.s20 :: x.s21 :: x.s22 :: x.s23 :: x.s24 :: x.s25 :: x.s26 :: x.s27 :: x.s28 :: x.s29 :: x.s30 :: x.s31 :: x.s32 :: undef :: undef :: undef :: undef :: undef :: undef :: undef :: undef :: undef :: undef :: []), defers := [] }) (fun x W => (x.b0 = true → x.s18 = .agg #[.slice va l.length vc]) ∧ (x.b1 = true → x.s19 = .int .i64 (B : Nat)) ∧ (x.b2 = true → x.s20 = .int .i64 (N : Nat)) ∧ (x.b3 = true → x.s21 = .int .i64 (f1 : Nat)) ∧ (x.b4 = true → x.s22 = .int .i64 (c1 : Nat)) ∧ (x.b5 = true → x.s23 = .int .i64 (c2 : Nat)) ∧ (x.b6 = true → x.s24 = .int .u16 (k : Nat)) ∧ (x.b7 = true → x.s25 = .int .i64 (k : Nat)) ∧ (x.b8 = true → x.s26 = .int .i64 (N : Nat)) ∧ (x.b9 = true → x.s27 = .int .i64 (j : Nat)) ∧ (x.b10 = true → x.s28 = .int .i64 (q : Nat)) ∧ (x.b11 = true → x.s29 = .int .i64 (p : Nat)) ∧ (x.b12 = true → x.s30 = .int .i64 h) ∧ (x.b13 = true → x.s31 = .int .u64 (zz : Nat)) ∧ (x.b15 = true → x.b0 = true ∧ x.b14 = true) ∧ (x.b15 = false → W.heap[w.heap.size]? = some (.cells #[.slice va l.length vc] 28 (0, 0))) ∧ (x.b14 = true → ∃ ra rc, x.s32 = .agg #[.slice ra l.length rc] ∧ Given W w.heap.size (.slice va l.length vc) l (.slice ra l.length rc) G1) ∧ (x.b15 = true → ∃ ra rc, W.heap[w.heap.size]? = some (.cells #[.slice ra l.length rc] 28 (0, 0)) ∧ Given W w.heap.size (.slice va l.length vc) l (.slice ra l.length rc) G1) ∧ (W.heap[w.heap.size + 1]? = some (.cells #[.slice none 0 0] 28)) ∧ (Below w.heap.size w W)) ⟨false, false, false, false, false, false, false, false, false, false, false, false, false, false, false, false, undef, undef, undef, undef, undef, undef, undef, undef, undef, undef, undef, undef, undef, undef, undef⟩ rfl rfl ⟨(fun h => by cases h), (fun h => by cases h), (fun h => by cases h), (fun h => by cases h), (fun h => by cases h), (fun h => by cases h), (fun h => by cases h), (fun h => by cases h), (fun h => by cases h), (fun h => by cases h), (fun h => by cases h), (fun h => by cases h), (fun h => by cases h), (fun h => by cases h), (fun h => by cases h), (fun _ => HM.out), (fun h => by cases h), (fun h => by cases h), HR.out, HB.out.drew⟩ (fun _ => rfl) ?hstep ?hdone
  case hstep =>
    rintro ⟨b0, b1, b2, b3, b4, b5, b6, b7, b8, b9, b10, b11, b12, b13, b14, b15, s18, s19, s20, s21, s22, s23, s24, s25, s26, s27, s28, s29, s30, s31, s32⟩ W hI i hi
    dsimp only at hI hi ⊢
    have HI := Lib.hid hI
    clear hI
    rw [Region.ready, List.mem_filter, List.mem_range] at hi
    obtain ⟨hlt, hp⟩ := hi
    have hi7 : i = 0 ∨ i = 1 ∨ i = 2 ∨ i = 3 ∨ i = 4 ∨ i = 5 ∨ i = 6 ∨ i = 7 ∨ i = 8 ∨ i = 9 ∨ i = 10 ∨ i = 11 ∨ i = 12 ∨ i = 13 ∨ i = 14 ∨ i = 15 := by simp at hlt; omega
    clear hlt
    rcases hi7 with rfl | rfl | rfl | rfl | rfl | rfl | rfl | rfl | rfl | rfl | rfl | rfl | rfl | rfl | rfl | rfl
    all_goals simp [Region.binds] at hp
    · have hn0 : b0 = false := by revert hp; cases b0 <;> simp
      clear hp
      subst hn0
      refine inv_op (o := ⟨some 18, _, _, _, _, _⟩) rfl (fun K' hK' => ?_)
      have gE := HI.out.2.2.2.2.2.2.2.2.2.2.2.2.2.2.1
      have gM := HI.out.2.2.2.2.2.2.2.2.2.2.2.2.2.2.2.1
      have hb15 : b15 = false := by cases b15 with | false => rfl | true => exact absurd (gE rfl).1 (by decide)
      subst hb15
      obtain ⟨hc1, hc2⟩ := one_cell (gM rfl)
      go_simp
      obtain ⟨h0, h1, h2, h3, h4, h5, h6, h7, h8, h9, h10, h11, h12, h13, gE, gM, gP, gB, gR, gO⟩ := HI.out
      exact hK'.out _ _ ⟨⟨true, b1, b2, b3, b4, b5, b6, b7, b8, b9, b10, b11, b12, b13, b14, false, _, s19, s20, s21, s22, s23, s24, s25, s26, s27, s28, s29, s30, s31, s32⟩, rfl, rfl, (fun _ => rfl), h1, h2, h3, h4, h5, h6, h7, h8, h9, h10, h11, h12, h13, (fun e => by cases e), gM, gP, gB, gR, gO⟩
    · have hn1 : b1 = false := by revert hp; cases b1 <;> simp
      clear hp
      subst hn1
      refine inv_op (o := ⟨some 19, _, _, _, _, _⟩) rfl (fun K' hK' => ?_)
      go_simp
      obtain ⟨h0, h1, h2, h3, h4, h5, h6, h7, h8, h9, h10, h11, h12, h13, gE, gM, gP, gB, gR, gO⟩ := HI.out
      exact hK'.out _ _ ⟨⟨b0, true, b2, b3, b4, b5, b6, b7, b8, b9, b10, b11, b12, b13, b14, b15, s18, _, s20, s21, s22, s23, s24, s25, s26, s27, s28, s29, s30, s31, s32⟩, rfl, rfl, h0, (fun _ => rfl), h2, h3, h4, h5, h6, h7, h8, h9, h10, h11, h12, h13, gE, gM, gP, gB, gR, gO⟩
    · have hn2 : b2 = false := by revert hp; cases b2 <;> simp
      clear hp
      subst hn2
      refine inv_op (o := ⟨some 20, _, _, _, _, _⟩) rfl (fun K' hK' => ?_)
      go_simp
      obtain ⟨h0, h1, h2, h3, h4, h5, h6, h7, h8, h9, h10, h11, h12, h13, gE, gM, gP, gB, gR, gO⟩ := HI.out
      exact hK'.out _ _ ⟨⟨b0, b1, true, b3, b4, b5, b6, b7, b8, b9, b10, b11, b12, b13, b14, b15, s18, s19, _, s21, s22, s23, s24, s25, s26, s27, s28, s29, s30, s31, s32⟩, rfl, rfl, h0, h1, (fun _ => rfl), h3, h4, h5, h6, h7, h8, h9, h10, h11, h12, h13, gE, gM, gP, gB, gR, gO⟩
    · have hn3 : b3 = false := by revert hp; cases b3 <;> simp
      have e2 : b2 = true := by revert hp; cases b2 <;> simp
      clear hp
      obtain rfl := (HI.out.2.2.1) e2
      subst hn3
      refine inv_op (o := ⟨some 21, _, _, _, _, _⟩) rfl (fun K' hK' => ?_)
      go_simp
      refine (HF.out W).mono ?_
      rintro e w2 ⟨rfl, rfl⟩
      obtain ⟨h0, h1, h2, h3, h4, h5, h6, h7, h8, h9, h10, h11, h12, h13, gE, gM, gP, gB, gR, gO⟩ := HI.out
      exact hK'.out _ _ ⟨⟨b0, b1, b2, true, b4, b5, b6, b7, b8, b9, b10, b11, b12, b13, b14, b15, s18, s19, _, _, s22, s23, s24, s25, s26, s27, s28, s29, s30, s31, s32⟩, rfl, rfl, h0, h1, h2, (fun _ => rfl), h4, h5, h6, h7, h8, h9, h10, h11, h12, h13, gE, gM, gP, gB, gR, gO⟩
    · have hn4 : b4 = false := by revert hp; cases b4 <;> simp
      have e1 : b1 = true := by revert hp; cases b1 <;> simp
      have e3 : b3 = true := by revert hp; cases b3 <;> simp
      clear hp
      obtain rfl := (HI.out.2.1) e1
      obtain rfl := (HI.out.2.2.2.1) e3
      subst hn4
      refine inv_op (o := ⟨some 22, _, _, _, _, _⟩) rfl (fun K' hK' => ?_)
      go_simp
      obtain ⟨h0, h1, h2, h3, h4, h5, h6, h7, h8, h9, h10, h11, h12, h13, gE, gM, gP, gB, gR, gO⟩ := HI.out
      exact hK'.out _ _ ⟨⟨b0, b1, b2, b3, true, b5, b6, b7, b8, b9, b10, b11, b12, b13, b14, b15, s18, _, s20, _, _, s23, s24, s25, s26, s27, s28, s29, s30, s31, s32⟩, rfl, rfl, h0, h1, h2, h3, (fun _ => rfl), h5, h6, h7, h8, h9, h10, h11, h12, h13, gE, gM, gP, gB, gR, gO⟩
    · have hn5 : b5 = false := by revert hp; cases b5 <;> simp
      have e4 : b4 = true := by revert hp; cases b4 <;> simp
      clear hp
      obtain rfl := (HI.out.2.2.2.2.1) e4
      subst hn5
      refine inv_op (o := ⟨some 23, _, _, _, _, _⟩) rfl (fun K' hK' => ?_)
      go_simp
      obtain ⟨h0, h1, h2, h3, h4, h5, h6, h7, h8, h9, h10, h11, h12, h13, gE, gM, gP, gB, gR, gO⟩ := HI.out
      exact hK'.out _ _ ⟨⟨b0, b1, b2, b3, b4, true, b6, b7, b8, b9, b10, b11, b12, b13, b14, b15, s18, s19, s20, s21, _, _, s24, s25, s26, s27, s28, s29, s30, s31, s32⟩, rfl, rfl, h0, h1, h2, h3, h4, (fun _ => rfl), h6, h7, h8, h9, h10, h11, h12, h13, gE, gM, gP, gB, gR, gO⟩
    · have hn6 : b6 = false := by revert hp; cases b6 <;> simp
      clear hp
      subst hn6
      refine inv_op (o := ⟨some 24, _, _, _, _, _⟩) rfl (fun K' hK' => ?_)
      go_simp
      obtain ⟨h0, h1, h2, h3, h4, h5, h6, h7, h8, h9, h10, h11, h12, h13, gE, gM, gP, gB, gR, gO⟩ := HI.out
      exact hK'.out _ _ ⟨⟨b0, b1, b2, b3, b4, b5, true, b7, b8, b9, b10, b11, b12, b13, b14, b15, s18, s19, s20, s21, s22, s23, _, s25, s26, s27, s28, s29, s30, s31, s32⟩, rfl, rfl, h0, h1, h2, h3, h4, h5, (fun _ => rfl), h7, h8, h9, h10, h11, h12, h13, gE, gM, gP, gB, gR, gO⟩
    · have hn7 : b7 = false := by revert hp; cases b7 <;> simp
      have e6 : b6 = true := by revert hp; cases b6 <;> simp
      clear hp
      obtain rfl := (HI.out.2.2.2.2.2.2.1) e6
      subst hn7
      refine inv_op (o := ⟨some 25, _, _, _, _, _⟩) rfl (fun K' hK' => ?_)
      go_simp
      obtain ⟨h0, h1, h2, h3, h4, h5, h6, h7, h8, h9, h10, h11, h12, h13, gE, gM, gP, gB, gR, gO⟩ := HI.out
      exact hK'.out _ _ ⟨⟨b0, b1, b2, b3, b4, b5, b6, true, b8, b9, b10, b11, b12, b13, b14, b15, s18, s19, s20, s21, s22, s23, _, _, s26, s27, s28, s29, s30, s31, s32⟩, rfl, rfl, h0, h1, h2, h3, h4, h5, h6, (fun _ => rfl), h8, h9, h10, h11, h12, h13, gE, gM, gP, gB, gR, gO⟩
    · have hn8 : b8 = false := by revert hp; cases b8 <;> simp
      clear hp
      subst hn8
      refine inv_op (o := ⟨some 26, _, _, _, _, _⟩) rfl (fun K' hK' => ?_)
      go_simp
      obtain ⟨h0, h1, h2, h3, h4, h5, h6, h7, h8, h9, h10, h11, h12, h13, gE, gM, gP, gB, gR, gO⟩ := HI.out
      exact hK'.out _ _ ⟨⟨b0, b1, b2, b3, b4, b5, b6, b7, true, b9, b10, b11, b12, b13, b14, b15, s18, s19, s20, s21, s22, s23, s24, s25, _, s27, s28, s29, s30, s31, s32⟩, rfl, rfl, h0, h1, h2, h3, h4, h5, h6, h7, (fun _ => rfl), h9, h10, h11, h12, h13, gE, gM, gP, gB, gR, gO⟩
    · have hn9 : b9 = false := by revert hp; cases b9 <;> simp
      have e7 : b7 = true := by revert hp; cases b7 <;> simp
      have e8 : b8 = true := by revert hp; cases b8 <;> simp
      clear hp
      obtain rfl := (HI.out.2.2.2.2.2.2.2.1) e7
      obtain rfl := (HI.out.2.2.2.2.2.2.2.2.1) e8
      subst hn9
      refine inv_op (o := ⟨some 27, _, _, _, _, _⟩) rfl (fun K' hK' => ?_)
      go_simp
      obtain ⟨h0, h1, h2, h3, h4, h5, h6, h7, h8, h9, h10, h11, h12, h13, gE, gM, gP, gB, gR, gO⟩ := HI.out
      exact hK'.out _ _ ⟨⟨b0, b1, b2, b3, b4, b5, b6, b7, b8, true, b10, b11, b12, b13, b14, b15, s18, s19, s20, s21, s22, s23, s24, _, _, _, s28, s29, s30, s31, s32⟩, rfl, rfl, h0, h1, h2, h3, h4, h5, h6, h7, h8, (fun _ => rfl), h10, h11, h12, h13, gE, gM, gP, gB, gR, gO⟩
    · have hn10 : b10 = false := by revert hp; cases b10 <;> simp
      have e9 : b9 = true := by revert hp; cases b9 <;> simp
      clear hp
      obtain rfl := (HI.out.2.2.2.2.2.2.2.2.2.1) e9
      subst hn10
      refine inv_op (o := ⟨some 28, _, _, _, _, _⟩) rfl (fun K' hK' => ?_)
      go_simp
      obtain ⟨h0, h1, h2, h3, h4, h5, h6, h7, h8, h9, h10, h11, h12, h13, gE, gM, gP, gB, gR, gO⟩ := HI.out
      exact hK'.out _ _ ⟨⟨b0, b1, b2, b3, b4, b5, b6, b7, b8, b9, true, b11, b12, b13, b14, b15, s18, s19, s20, s21, s22, s23, s24, s25, s26, _, _, s29, s30, s31, s32⟩, rfl, rfl, h0, h1, h2, h3, h4, h5, h6, h7, h8, h9, (fun _ => rfl), h11, h12, h13, gE, gM, gP, gB, gR, gO⟩
    · have hn11 : b11 = false := by revert hp; cases b11 <;> simp
      have e5 : b5 = true := by revert hp; cases b5 <;> simp
      have e10 : b10 = true := by revert hp; cases b10 <;> simp
      clear hp
      obtain rfl := (HI.out.2.2.2.2.2.1) e5
      obtain rfl := (HI.out.2.2.2.2.2.2.2.2.2.2.1) e10
      subst hn11
      refine inv_op (o := ⟨some 29, _, _, _, _, _⟩) rfl (fun K' hK' => ?_)
      go_simp
      obtain ⟨h0, h1, h2, h3, h4, h5, h6, h7, h8, h9, h10, h11, h12, h13, gE, gM, gP, gB, gR, gO⟩ := HI.out
      exact hK'.out _ _ ⟨⟨b0, b1, b2, b3, b4, b5, b6, b7, b8, b9, b10, true, b12, b13, b14, b15, s18, s19, s20, s21, s22, _, s24, s25, s26, s27, _, _, s30, s31, s32⟩, rfl, rfl, h0, h1, h2, h3, h4, h5, h6, h7, h8, h9, h10, (fun _ => rfl), h12, h13, gE, gM, gP, gB, gR, gO⟩
    · have hn12 : b12 = false := by revert hp; cases b12 <;> simp
      clear hp
      subst hn12
      refine inv_op (o := ⟨some 30, _, _, _, _, _⟩) rfl (fun K' hK' => ?_)
      go_simp
      obtain ⟨h0, h1, h2, h3, h4, h5, h6, h7, h8, h9, h10, h11, h12, h13, gE, gM, gP, gB, gR, gO⟩ := HI.out
      exact hK'.out _ _ ⟨⟨b0, b1, b2, b3, b4, b5, b6, b7, b8, b9, b10, b11, true, b13, b14, b15, s18, s19, s20, s21, s22, s23, s24, s25, s26, s27, s28, s29, _, s31, s32⟩, rfl, rfl, h0, h1, h2, h3, h4, h5, h6, h7, h8, h9, h10, h11, (fun _ => rfl), h13, gE, gM, gP, gB, gR, gO⟩
    · have hn13 : b13 = false := by revert hp; cases b13 <;> simp
      have e12 : b12 = true := by revert hp; cases b12 <;> simp
      clear hp
      obtain rfl := (HI.out.2.2.2.2.2.2.2.2.2.2.2.2.1) e12
      subst hn13
      refine inv_op (o := ⟨some 31, _, _, _, _, _⟩) rfl (fun K' hK' => ?_)
      go_simp
      obtain ⟨h0, h1, h2, h3, h4, h5, h6, h7, h8, h9, h10, h11, h12, h13, gE, gM, gP, gB, gR, gO⟩ := HI.out
      exact hK'.out _ _ ⟨⟨b0, b1, b2, b3, b4, b5, b6, b7, b8, b9, b10, b11, b12, true, b14, b15, s18, s19, s20, s21, s22, s23, s24, s25, s26, s27, s28, s29, _, _, s32⟩, rfl, rfl, h0, h1, h2, h3, h4, h5, h6, h7, h8, h9, h10, h11, h12, (fun _ => rfl), gE, gM, gP, gB, gR, gO⟩
    · have hn14 : b14 = false := by revert hp; cases b14 <;> simp
      have e0 : b0 = true := by revert hp; cases b0 <;> simp
      have e11 : b11 = true := by revert hp; cases b11 <;> simp
      have e13 : b13 = true := by revert hp; cases b13 <;> simp
      clear hp
      obtain rfl := (HI.out.1) e0
      obtain rfl := (HI.out.2.2.2.2.2.2.2.2.2.2.2.1) e11
      obtain rfl := (HI.out.2.2.2.2.2.2.2.2.2.2.2.2.2.1) e13
      subst hn14
      refine inv_op (o := ⟨some 32, _, _, _, _, _⟩) rfl (fun K' hK' => ?_)
      have gE := HI.out.2.2.2.2.2.2.2.2.2.2.2.2.2.2.1
      have gO := HI.out.2.2.2.2.2.2.2.2.2.2.2.2.2.2.2.2.2.2.2
      have hb15 : b15 = false := by cases b15 with | false => rfl | true => exact absurd (gE rfl).2 (by decide)
      subst hb15
      go_simp
      refine (HPT0.out W gO).mono ?_
      rintro e w2 ⟨ra, rc, rfl, hg, bn⟩
      obtain ⟨h0, h1, h2, h3, h4, h5, h6, h7, h8, h9, h10, h11, h12, h13, gE, gM, gP, gB, gR, gO⟩ := HI.out
      exact hK'.out _ _ ⟨⟨b0, b1, b2, b3, b4, b5, b6, b7, b8, b9, b10, b11, b12, b13, true, false, _, s19, s20, s21, s22, s23, s24, s25, s26, s27, s28, _, s30, _, _⟩, rfl, rfl, h0, h1, h2, h3, h4, h5, h6, h7, h8, h9, h10, h11, h12, h13, (fun e => by cases e), (fun e => row_keep (gM e) bn), (fun _ => ⟨ra, rc, rfl, hg⟩), (fun e => by cases e), (row_keep gR bn), (gO.trans (bn.mono gO.size))⟩
    · have hn15 : b15 = false := by revert hp; cases b15 <;> simp
      have e0 : b0 = true := by revert hp; cases b0 <;> simp
      have e1 : b1 = true := by revert hp; cases b1 <;> simp
      have e2 : b2 = true := by revert hp; cases b2 <;> simp
      have e3 : b3 = true := by revert hp; cases b3 <;> simp
      have e4 : b4 = true := by revert hp; cases b4 <;> simp
      have e5 : b5 = true := by revert hp; cases b5 <;> simp
      have e6 : b6 = true := by revert hp; cases b6 <;> simp
      have e7 : b7 = true := by revert hp; cases b7 <;> simp
      have e8 : b8 = true := by revert hp; cases b8 <;> simp
      have e9 : b9 = true := by revert hp; cases b9 <;> simp
      have e10 : b10 = true := by revert hp; cases b10 <;> simp
      have e11 : b11 = true := by revert hp; cases b11 <;> simp
      have e12 : b12 = true := by revert hp; cases b12 <;> simp
      have e13 : b13 = true := by revert hp; cases b13 <;> simp
      have e14 : b14 = true := by revert hp; cases b14 <;> simp
      clear hp
      subst hn15
      refine inv_op (o := ⟨none, _, _, _, _, _⟩) rfl (fun K' hK' => ?_)
      have gM := HI.out.2.2.2.2.2.2.2.2.2.2.2.2.2.2.2.1
      have gP := HI.out.2.2.2.2.2.2.2.2.2.2.2.2.2.2.2.2.1
      obtain ⟨ra, rc, rfl, hg⟩ := gP e14
      have hrow := gM rfl
      obtain ⟨hc1, hc2⟩ := one_cell hrow
      go_simp
      obtain ⟨h0, h1, h2, h3, h4, h5, h6, h7, h8, h9, h10, h11, h12, h13, gE, gM, gP, gB, gR, gO⟩ := HI.out
      exact hK'.out _ _ ⟨⟨b0, b1, b2, b3, b4, b5, b6, b7, b8, b9, b10, b11, b12, b13, b14, true, s18, s19, s20, s21, s22, s23, s24, s25, s26, s27, s28, s29, s30, s31, _⟩, rfl, rfl, h0, h1, h2, h3, h4, h5, h6, h7, h8, h9, h10, h11, h12, h13, (fun _ => ⟨e0, e14⟩), (fun e => by cases e), (fun _ => ⟨ra, rc, rfl, hg.far hrow tneMU _⟩), (fun _ => ⟨ra, rc, one_set hrow _, hg.far hrow tneMU _⟩), (one_other gR _ _ (by simp)), (gO.setCell (Nat.le_refl _) _)⟩
  case hdone =>
    rintro ⟨b0, b1, b2, b3, b4, b5, b6, b7, b8, b9, b10, b11, b12, b13, b14, b15, s18, s19, s20, s21, s22, s23, s24, s25, s26, s27, s28, s29, s30, s31, s32⟩ W hI hall
    dsimp only at hI hall ⊢
    have HI := Lib.hid hI
    clear hI
    obtain rfl : b0 = true := hall 0 (by decide)
    obtain rfl : b1 = true := hall 1 (by decide)
    obtain rfl : b2 = true := hall 2 (by decide)
    obtain rfl : b3 = true := hall 3 (by decide)
    obtain rfl : b4 = true := hall 4 (by decide)
    obtain rfl : b5 = true := hall 5 (by decide)
    obtain rfl : b6 = true := hall 6 (by decide)
    obtain rfl : b7 = true := hall 7 (by decide)
    obtain rfl : b8 = true := hall 8 (by decide)
    obtain rfl : b9 = true := hall 9 (by decide)
    obtain rfl : b10 = true := hall 10 (by decide)
    obtain rfl : b11 = true := hall 11 (by decide)
    obtain rfl : b12 = true := hall 12 (by decide)
    obtain rfl : b13 = true := hall 13 (by decide)
    obtain rfl : b14 = true := hall 14 (by decide)
    obtain rfl : b15 = true := hall 15 (by decide)
    obtain rfl := (HI.out.1) rfl
    obtain rfl := (HI.out.2.1) rfl
    obtain rfl := (HI.out.2.2.1) rfl
    obtain rfl := (HI.out.2.2.2.1) rfl
    obtain rfl := (HI.out.2.2.2.2.1) rfl
    obtain rfl := (HI.out.2.2.2.2.2.1) rfl
    obtain rfl := (HI.out.2.2.2.2.2.2.1) rfl
    obtain rfl := (HI.out.2.2.2.2.2.2.2.1) rfl
    obtain rfl := (HI.out.2.2.2.2.2.2.2.2.1) rfl
    obtain rfl := (HI.out.2.2.2.2.2.2.2.2.2.1) rfl
    obtain rfl := (HI.out.2.2.2.2.2.2.2.2.2.2.1) rfl
    obtain rfl := (HI.out.2.2.2.2.2.2.2.2.2.2.2.1) rfl
    obtain rfl := (HI.out.2.2.2.2.2.2.2.2.2.2.2.2.1) rfl
    obtain rfl := (HI.out.2.2.2.2.2.2.2.2.2.2.2.2.2.1) rfl
    have gB := HI.out.2.2.2.2.2.2.2.2.2.2.2.2.2.2.2.2.2.1
    have gR := HI.out.2.2.2.2.2.2.2.2.2.2.2.2.2.2.2.2.2.2.1
    have gO := HI.out.2.2.2.2.2.2.2.2.2.2.2.2.2.2.2.2.2.2.2
    clear HI hall
    obtain ⟨w2, hw2⟩ : ∃ u, u = W := ⟨_, rfl⟩
    subst hw2
    obtain ⟨u32, hu32⟩ : ∃ u, u = s32 := ⟨_, rfl⟩
    subst hu32
    obtain ⟨ra, rc, hrow, hg⟩ := gB rfl
    replace HM := Lib.hid hrow
    replace HR := Lib.hid gR
    replace HB := Lib.hid gO
    have HG1 := Lib.hid hg
    have HPT := Lib.hid (HPT1.out ra rc)
    clear hrow hg gB gR gO HPT0 HPT1
    clear htm hz hwj hwk hem e3 e6 e7 kz
    go_wp2_with fail
    refine wp_region_rec (X := RngRefOfferBX) (by kernel_rfl) (by kernel_rfl) (fun x => #[x.b0, x.b1, x.b2, x.b3, x.b4, x.b5, x.b6, x.b7, x.b8, x.b9, x.b10, x.b11]) (fun x => { tmps := List.toArray ((Value.agg #[Value.slice va l.length vc]) :: (Value.int IntKind.i64 ↑B) :: (Value.int IntKind.i64 ↑N) :: (Value.int IntKind.u16 ↑k) :: (Value.int IntKind.i64 h) :: (Value.pointer (some ⟨w.heap.size, 0, none⟩)) :: undef :: undef :: undef :: undef :: (Value.pointer (some ⟨w.heap.size + 1, 0, none⟩)) :: x.s11 :: (Value.agg #[Value.slice va l.length vc]) :: (Value.int IntKind.i64 ↑B) :: (Value.int IntKind.i64 ↑N) :: (Value.bool true) :: (Value.bool false) :: undef :: (Value.agg #[Value.slice va l.length vc]) :: (Value.int IntKind.i64 ↑B) :: (Value.int IntKind.i64 ↑N) :: (Value.int IntKind.i64 ↑f1) :: (Value.int IntKind.i64 ↑c1) :: (Value.int IntKind.i64 ↑c2) :: (Value.int IntKind.u16 ↑k) :: (Value.int IntKind.i64 ↑k) :: (Value.int IntKind.i64 ↑N) :: (Value.int IntKind.i64 ↑j) :: (Value.int IntKind.i64 ↑q) :: (Value.int IntKind.i64 ↑p) :: (Value.int IntKind.i64 h) :: (Value.int IntKind.u64 ↑zz) :: u32 :: x.s33 :: x.s34 :: x.s35 :: x.s36 :: x.s37 :: x.s38 :: x.s39 :: x.s40 :: x.s41 :: x.s42 :: []), defers := [] }) (fun x W => (x.b0 = true → x.s33 = .agg #[.slice ra l.length rc]) ∧ (x.b1 = true → x.s34 = .int .i64 (B : Nat)) ∧ (x.b2 = true → x.s35 = .int .i64 (N : Nat)) ∧ (x.b3 = true → x.s36 = .int .i64 (f1 : Nat)) ∧ (x.b4 = true → x.s37 = .int .i64 (c1 : Nat)) ∧ (x.b5 = true → x.s38 = .int .i64 (ix : Nat)) ∧ (x.b6 = true → x.s39 = .int .u16 (k : Nat)) ∧ (x.b7 = true → x.s40 = .int .u64 (k : Nat)) ∧ (x.b8 = true → x.s41 = .int .u64 (kk : Nat)) ∧ (x.b11 = true → x.s11 = .int .i64 0) ∧ (W.heap[w.heap.size]? = some (.cells #[.slice ra l.length rc] 28 (0, 0))) ∧ (x.b9 = false → Given W w.heap.size (.slice va l.length vc) l (.slice ra l.length rc) G1) ∧ (x.b9 = true → ∃ sa sc, x.s42 = .agg #[.slice sa l.length sc] ∧ Given W w.heap.size (.slice va l.length vc) l (.slice sa l.length sc) H) ∧ (x.b10 = false → W.heap[w.heap.size + 1]? = some (.cells #[.slice none 0 0] 28)) ∧ (x.b10 = true → ∃ sa sc, W.heap[w.heap.size + 1]? = some (.cells #[.slice sa l.length sc] 28 (0, 0)) ∧ Given W w.heap.size (.slice va l.length vc) l (.slice sa l.length sc) H) ∧ (x.b10 = true → x.b9 = true) ∧ (Below w.heap.size w W)) ⟨false, false, false, false, false, false, false, false, false, false, false, false, undef, undef, undef, undef, undef, undef, undef, undef, undef, undef, Value.int IntKind.i64 0⟩ rfl rfl ⟨(fun h => by cases h), (fun h => by cases h), (fun h => by cases h), (fun h => by cases h), (fun h => by cases h), (fun h => by cases h), (fun h => by cases h), (fun h => by cases h), (fun h => by cases h), (fun h => by cases h), HM.out, (fun _ => HG1.out.below ((Below.refl _ _).drew)), (fun h => by cases h), (fun _ => HR.out), (fun h => by cases h), (fun h => by cases h), HB.out.drew⟩ (fun _ => rfl) ?hstep ?hdone
    case hstep =>
      rintro ⟨b0, b1, b2, b3, b4, b5, b6, b7, b8, b9, b10, b11, s33, s34, s35, s36, s37, s38, s39, s40, s41, s42, s11⟩ W hI i hi
      dsimp only at hI hi ⊢
      have HI := Lib.hid hI
      clear hI
      rw [Region.ready, List.mem_filter, List.mem_range] at hi
      obtain ⟨hlt, hp⟩ := hi
      have hi7 : i = 0 ∨ i = 1 ∨ i = 2 ∨ i = 3 ∨ i = 4 ∨ i = 5 ∨ i = 6 ∨ i = 7 ∨ i = 8 ∨ i = 9 ∨ i = 10 ∨ i = 11 := by simp at hlt; omega
      clear hlt
      rcases hi7 with rfl | rfl | rfl | rfl | rfl | rfl | rfl | rfl | rfl | rfl | rfl | rfl
      all_goals simp [Region.binds] at hp
      · have hn0 : b0 = false := by revert hp; cases b0 <;> simp
        clear hp
        subst hn0
        refine inv_op (o := ⟨some 33, _, _, _, _, _⟩) rfl (fun K' hK' => ?_)
        have gM := HI.out.2.2.2.2.2.2.2.2.2.2.1
        obtain ⟨hc1, hc2⟩ := one_cell gM
        go_simp
        obtain ⟨h0, h1, h2, h3, h4, h5, h6, h7, h8, h11, gM, gG, gP, gR, gB, gC, gO⟩ := HI.out
        exact hK'.out _ _ ⟨⟨true, b1, b2, b3, b4, b5, b6, b7, b8, b9, b10, b11, _, s34, s35, s36, s37, s38, s39, s40, s41, s42, s11⟩, rfl, rfl, (fun _ => rfl), h1, h2, h3, h4, h5, h6, h7, h8, h11, gM, gG, gP, gR, gB, gC, gO⟩
      · have hn1 : b1 = false := by revert hp; cases b1 <;> simp
        clear hp
        subst hn1
        refine inv_op (o := ⟨some 34, _, _, _, _, _⟩) rfl (fun K' hK' => ?_)
        go_simp
        obtain ⟨h0, h1, h2, h3, h4, h5, h6, h7, h8, h11, gM, gG, gP, gR, gB, gC, gO⟩ := HI.out
        exact hK'.out _ _ ⟨⟨b0, true, b2, b3, b4, b5, b6, b7, b8, b9, b10, b11, s33, _, s35, s36, s37, s38, s39, s40, s41, s42, s11⟩, rfl, rfl, h0, (fun _ => rfl), h2, h3, h4, h5, h6, h7, h8, h11, gM, gG, gP, gR, gB, gC, gO⟩
      · have hn2 : b2 = false := by revert hp; cases b2 <;> simp
        clear hp
        subst hn2
        refine inv_op (o := ⟨some 35, _, _, _, _, _⟩) rfl (fun K' hK' => ?_)
        go_simp
        obtain ⟨h0, h1, h2, h3, h4, h5, h6, h7, h8, h11, gM, gG, gP, gR, gB, gC, gO⟩ := HI.out
        exact hK'.out _ _ ⟨⟨b0, b1, true, b3, b4, b5, b6, b7, b8, b9, b10, b11, s33, s34, _, s36, s37, s38, s39, s40, s41, s42, s11⟩, rfl, rfl, h0, h1, (fun _ => rfl), h3, h4, h5, h6, h7, h8, h11, gM, gG, gP, gR, gB, gC, gO⟩
      · have hn3 : b3 = false := by revert hp; cases b3 <;> simp
        have e2 : b2 = true := by revert hp; cases b2 <;> simp
        clear hp
        obtain rfl := (HI.out.2.2.1) e2
        subst hn3
        refine inv_op (o := ⟨some 36, _, _, _, _, _⟩) rfl (fun K' hK' => ?_)
        go_simp
        refine (HF.out W).mono ?_
        rintro e w2 ⟨rfl, rfl⟩
        obtain ⟨h0, h1, h2, h3, h4, h5, h6, h7, h8, h11, gM, gG, gP, gR, gB, gC, gO⟩ := HI.out
        exact hK'.out _ _ ⟨⟨b0, b1, b2, true, b4, b5, b6, b7, b8, b9, b10, b11, s33, s34, _, _, s37, s38, s39, s40, s41, s42, s11⟩, rfl, rfl, h0, h1, h2, (fun _ => rfl), h4, h5, h6, h7, h8, h11, gM, gG, gP, gR, gB, gC, gO⟩
      · have hn4 : b4 = false := by revert hp; cases b4 <;> simp
        have e1 : b1 = true := by revert hp; cases b1 <;> simp
        have e3 : b3 = true := by revert hp; cases b3 <;> simp
        clear hp
        obtain rfl := (HI.out.2.1) e1
        obtain rfl := (HI.out.2.2.2.1) e3
        subst hn4
        refine inv_op (o := ⟨some 37, _, _, _, _, _⟩) rfl (fun K' hK' => ?_)
        go_simp
        obtain ⟨h0, h1, h2, h3, h4, h5, h6, h7, h8, h11, gM, gG, gP, gR, gB, gC, gO⟩ := HI.out
        exact hK'.out _ _ ⟨⟨b0, b1, b2, b3, true, b5, b6, b7, b8, b9, b10, b11, s33, _, s35, _, _, s38, s39, s40, s41, s42, s11⟩, rfl, rfl, h0, h1, h2, h3, (fun _ => rfl), h5, h6, h7, h8, h11, gM, gG, gP, gR, gB, gC, gO⟩
      · have hn5 : b5 = false := by revert hp; cases b5 <;> simp
        have e4 : b4 = true := by revert hp; cases b4 <;> simp
        clear hp
        obtain rfl := (HI.out.2.2.2.2.1) e4
        subst hn5
        refine inv_op (o := ⟨some 38, _, _, _, _, _⟩) rfl (fun K' hK' => ?_)
        go_simp
        obtain ⟨h0, h1, h2, h3, h4, h5, h6, h7, h8, h11, gM, gG, gP, gR, gB, gC, gO⟩ := HI.out
        exact hK'.out _ _ ⟨⟨b0, b1, b2, b3, b4, true, b6, b7, b8, b9, b10, b11, s33, s34, s35, s36, _, _, s39, s40, s41, s42, s11⟩, rfl, rfl, h0, h1, h2, h3, h4, (fun _ => rfl), h6, h7, h8, h11, gM, gG, gP, gR, gB, gC, gO⟩
      · have hn6 : b6 = false := by revert hp; cases b6 <;> simp
        clear hp
        subst hn6
        refine inv_op (o := ⟨some 39, _, _, _, _, _⟩) rfl (fun K' hK' => ?_)
        go_simp
        obtain ⟨h0, h1, h2, h3, h4, h5, h6, h7, h8, h11, gM, gG, gP, gR, gB, gC, gO⟩ := HI.out
        exact hK'.out _ _ ⟨⟨b0, b1, b2, b3, b4, b5, true, b7, b8, b9, b10, b11, s33, s34, s35, s36, s37, s38, _, s40, s41, s42, s11⟩, rfl, rfl, h0, h1, h2, h3, h4, h5, (fun _ => rfl), h7, h8, h11, gM, gG, gP, gR, gB, gC, gO⟩
      · have hn7 : b7 = false := by revert hp; cases b7 <;> simp
        have e6 : b6 = true := by revert hp; cases b6 <;> simp
        clear hp
        obtain rfl := (HI.out.2.2.2.2.2.2.1) e6
        subst hn7
        refine inv_op (o := ⟨some 40, _, _, _, _, _⟩) rfl (fun K' hK' => ?_)
        go_simp
        obtain ⟨h0, h1, h2, h3, h4, h5, h6, h7, h8, h11, gM, gG, gP, gR, gB, gC, gO⟩ := HI.out
        exact hK'.out _ _ ⟨⟨b0, b1, b2, b3, b4, b5, b6, true, b8, b9, b10, b11, s33, s34, s35, s36, s37, s38, _, _, s41, s42, s11⟩, rfl, rfl, h0, h1, h2, h3, h4, h5, h6, (fun _ => rfl), h8, h11, gM, gG, gP, gR, gB, gC, gO⟩
      · have hn8 : b8 = false := by revert hp; cases b8 <;> simp
        have e7 : b7 = true := by revert hp; cases b7 <;> simp
        clear hp
        obtain rfl := (HI.out.2.2.2.2.2.2.2.1) e7
        subst hn8
        refine inv_op (o := ⟨some 41, _, _, _, _, _⟩) rfl (fun K' hK' => ?_)
        go_simp
        obtain ⟨h0, h1, h2, h3, h4, h5, h6, h7, h8, h11, gM, gG, gP, gR, gB, gC, gO⟩ := HI.out
        exact hK'.out _ _ ⟨⟨b0, b1, b2, b3, b4, b5, b6, b7, true, b9, b10, b11, s33, s34, s35, s36, s37, s38, s39, _, _, s42, s11⟩, rfl, rfl, h0, h1, h2, h3, h4, h5, h6, h7, (fun _ => rfl), h11, gM, gG, gP, gR, gB, gC, gO⟩
      · have hn9 : b9 = false := by revert hp; cases b9 <;> simp
        have e0 : b0 = true := by revert hp; cases b0 <;> simp
        have e5 : b5 = true := by revert hp; cases b5 <;> simp
        have e8 : b8 = true := by revert hp; cases b8 <;> simp
        clear hp
        obtain rfl := (HI.out.1) e0
        obtain rfl := (HI.out.2.2.2.2.2.1) e5
        obtain rfl := (HI.out.2.2.2.2.2.2.2.2.1) e8
        subst hn9
        refine inv_op (o := ⟨some 42, _, _, _, _, _⟩) rfl (fun K' hK' => ?_)
        have gG := HI.out.2.2.2.2.2.2.2.2.2.2.2.1
        have gO := HI.out.2.2.2.2.2.2.2.2.2.2.2.2.2.2.2.2
        go_simp
        refine (HPT.out W gO (gG rfl)).mono ?_
        rintro e w9 ⟨sa, sc, rfl, hg, bn⟩
        obtain ⟨h0, h1, h2, h3, h4, h5, h6, h7, h8, h11, gM, gG, gP, gR, gB, gC, gO⟩ := HI.out
        exact hK'.out _ _ ⟨⟨b0, b1, b2, b3, b4, b5, b6, b7, b8, true, b10, b11, _, s34, s35, s36, s37, _, s39, s40, _, _, s11⟩, rfl, rfl, h0, h1, h2, h3, h4, h5, h6, h7, h8, h11, (row_keep gM bn), (fun e => by cases e), (fun _ => ⟨sa, sc, rfl, hg⟩), (fun e => row_keep (gR e) bn), (fun e => by have h9 := gC e; cases h9), (fun _ => rfl), (gO.trans (bn.mono gO.size))⟩
      · have hn10 : b10 = false := by revert hp; cases b10 <;> simp
        have e0 : b0 = true := by revert hp; cases b0 <;> simp
        have e1 : b1 = true := by revert hp; cases b1 <;> simp
        have e2 : b2 = true := by revert hp; cases b2 <;> simp
        have e3 : b3 = true := by revert hp; cases b3 <;> simp
        have e4 : b4 = true := by revert hp; cases b4 <;> simp
        have e5 : b5 = true := by revert hp; cases b5 <;> simp
        have e6 : b6 = true := by revert hp; cases b6 <;> simp
        have e7 : b7 = true := by revert hp; cases b7 <;> simp
        have e8 : b8 = true := by revert hp; cases b8 <;> simp
        have e9 : b9 = true := by revert hp; cases b9 <;> simp
        clear hp
        subst hn10
        refine inv_op (o := ⟨none, _, _, _, _, _⟩) rfl (fun K' hK' => ?_)
        have gP := HI.out.2.2.2.2.2.2.2.2.2.2.2.2.1
        have gR := HI.out.2.2.2.2.2.2.2.2.2.2.2.2.2.1
        obtain ⟨sa, sc, rfl, hg⟩ := gP e9
        have hrow := gR rfl
        obtain ⟨hc1, hc2⟩ := one_cell hrow
        go_simp
        obtain ⟨h0, h1, h2, h3, h4, h5, h6, h7, h8, h11, gM, gG, gP, gR, gB, gC, gO⟩ := HI.out
        exact hK'.out _ _ ⟨⟨b0, b1, b2, b3, b4, b5, b6, b7, b8, b9, true, b11, s33, s34, s35, s36, s37, s38, s39, s40, s41, _, s11⟩, rfl, rfl, h0, h1, h2, h3, h4, h5, h6, h7, h8, h11, (one_other gM _ _ (by simp; try omega)), (fun e => by rw [e9] at e; cases e), (fun _ => ⟨sa, sc, rfl, hg.far hrow tneMU _⟩), (fun e => by cases e), (fun _ => ⟨sa, sc, one_set hrow _, hg.far hrow tneMU _⟩), (fun _ => e9), (gO.setCell (by simp; try omega) _)⟩
      · have hn11 : b11 = false := by revert hp; cases b11 <;> simp
        clear hp
        subst hn11
        refine inv_op (o := ⟨some 11, _, _, _, _, _⟩) rfl (fun K' hK' => ?_)
        go_simp
        obtain ⟨h0, h1, h2, h3, h4, h5, h6, h7, h8, h11, gM, gG, gP, gR, gB, gC, gO⟩ := HI.out
        exact hK'.out _ _ ⟨⟨b0, b1, b2, b3, b4, b5, b6, b7, b8, b9, b10, true, s33, s34, s35, s36, s37, s38, s39, s40, s41, s42, _⟩, rfl, rfl, h0, h1, h2, h3, h4, h5, h6, h7, h8, (fun _ => rfl), gM, gG, gP, gR, gB, gC, gO⟩
    case hdone =>
      rintro ⟨b0, b1, b2, b3, b4, b5, b6, b7, b8, b9, b10, b11, s33, s34, s35, s36, s37, s38, s39, s40, s41, s42, s11⟩ W hI hall
      dsimp only at hI hall ⊢
      have HI := Lib.hid hI
      clear hI
      obtain rfl : b0 = true := hall 0 (by decide)
      obtain rfl : b1 = true := hall 1 (by decide)
      obtain rfl : b2 = true := hall 2 (by decide)
      obtain rfl : b3 = true := hall 3 (by decide)
      obtain rfl : b4 = true := hall 4 (by decide)
      obtain rfl : b5 = true := hall 5 (by decide)
      obtain rfl : b6 = true := hall 6 (by decide)
      obtain rfl : b7 = true := hall 7 (by decide)
      obtain rfl : b8 = true := hall 8 (by decide)
      obtain rfl : b9 = true := hall 9 (by decide)
      obtain rfl : b10 = true := hall 10 (by decide)
      obtain rfl : b11 = true := hall 11 (by decide)
      obtain rfl := (HI.out.2.2.2.2.2.2.2.2.2.1) rfl
      have gB := HI.out.2.2.2.2.2.2.2.2.2.2.2.2.2.2.1
      have gO := HI.out.2.2.2.2.2.2.2.2.2.2.2.2.2.2.2.2
      clear HI hall
      obtain ⟨sa, sc, hrow, hg⟩ := gB rfl
      obtain ⟨r0, f0⟩ := one_cell hrow
      have HG9 := Lib.hid hg
      have HO9 := Lib.hid gO
      clear hrow hg gB gO f0
      go_wp2
      refine bodyPost_ret (v := .tuple #[.agg #[.slice sa l.length sc], .int .i64 0]) (by simp [results, Try.results19, go_sem, r0]) rfl ⟨sa, sc, rfl, HG9.out, HO9.out⟩
structure RngRefReturnBX where
  b0 : Bool
  b1 : Bool
  b2 : Bool
  b3 : Bool
  b4 : Bool
  b5 : Bool
  b6 : Bool
  b7 : Bool
  b8 : Bool
  b9 : Bool
  b10 : Bool
  b11 : Bool
  s43 : Value
  s44 : Value
  s45 : Value
  s46 : Value
  s47 : Value
  s48 : Value
  s49 : Value
  s50 : Value
  s51 : Value
  s52 : Value
  s11 : Value

set_option maxHeartbeats 4000000 in
set_option maxRecDepth 100000 in
theorem refReturn_in (v : Value) (l : List UInt8) (w : World) (hv : IsArg w v l) (B N : Nat) (hok : RingOk l.length B N) (k : Nat) (hk : k < 65536) (y0 y1 : Nat) (hy0 : y0 < 4294967296) (hy1 : y1 < 4294967296) (p : Nat) (hp : B + secN N + 4 + 8 * (k % N) = p) :
    Calls Try.prog 20 #[.agg #[v], .int .i64 (B : Nat), .int .i64 (N : Nat), .int .u16 (k : Nat), .agg #[.int .u32 (y0 : Nat), .int .u32 (y1 : Nat)]] w (Wrote w v l (returnD l B N k y0 y1) 0) := by
  have hN := hok.right.le
  have hsz := sizeN_le N
  have hfit := hok.fits
  have hL := hok.few
  have HL := Lib.hid hL
  have HNN := Lib.hid hN
  have HMX := Lib.hid (show l.length ≤ maxLen by unfold maxLen; omega)
  have HC := Lib.hid hok.ok
  have HV := Lib.hid hv
  obtain ⟨va, vc, rfl, _⟩ := hv.shape
  obtain ⟨t1, t2, t3, t4⟩ := three_new w (.slice va l.length vc) #[.int .u32 (y0 : Nat), .int .u32 (y1 : Nat)] (.slice none 0 0) 28 25 28
  have HB := Lib.hid t4
  have HM := Lib.hid t1
  have HD := Lib.hid t2
  have HR := Lib.hid t3
  clear t1 t2 t3 t4
  obtain ⟨f1, hf1⟩ : ∃ q, q = secN N := ⟨_, rfl⟩
  obtain ⟨c1, hc1⟩ : ∃ q, q = B + f1 := ⟨_, rfl⟩
  obtain ⟨c2, hc2⟩ : ∃ q, q = c1 + 4 := ⟨_, rfl⟩
  have e2 : (B : Int) + (f1 : Nat) = (c1 : Nat) := by omega
  have e3 : (c1 : Int) + 4 = (c2 : Nat) := by omega
  have q1 : f1 ≤ 1000 := by omega
  have q2 : c1 ≤ 9000 := by omega
  have hwrc1 : IntKind.i64.wrap ((c1 : Nat) : Int) = (c1 : Nat) := IntWalk.i64_in _ (by omega)
  have hwrc2 : IntKind.i64.wrap ((c2 : Nat) : Int) = (c2 : Nat) := IntWalk.i64_in _ (by omega)
  have HF := Lib.hid (show ∀ W, Calls Try.prog 46 #[.int .i64 (N : Nat)] W fun e w' => e = .returned (.int .i64 (f1 : Nat)) ∧ w' = W from fun W => refSecond_any N f1 hf1.symm hN.2 W)
  obtain ⟨j, hj⟩ : ∃ j, k % N = j := ⟨_, rfl⟩
  have hjn : j < N := by rw [← hj]; exact Nat.mod_lt _ (by omega)
  rw [hj] at hp
  obtain ⟨q, hq⟩ : ∃ q, q = 8 * j := ⟨_, rfl⟩
  have htm : ((k : Nat) : Int).tmod ((N : Nat) : Int) = (j : Nat) := by rw [Int.tmod_eq_emod_of_nonneg (by omega)]; omega
  have hz : ¬ (N = 0) := by omega
  have hwj : IntKind.i64.wrap ((j : Nat) : Int) = (j : Nat) := IntWalk.i64_in _ (by omega)
  have hwk : IntKind.i64.wrap ((k : Nat) : Int) = (k : Nat) := IntWalk.i64_in _ (by omega)
  have hem : (k : Int) % (N : Nat) = (j : Nat) := by omega
  have e6 : (8 : Int) * (j : Nat) = (q : Nat) := by omega
  have e7 : (c2 : Int) + (q : Nat) = (p : Nat) := by omega
  have q3 : j ≤ 16 := by omega
  have q4 : q ≤ 1000 := by omega
  have hwrq : IntKind.i64.wrap ((q : Nat) : Int) = (q : Nat) := IntWalk.i64_in _ (by omega)
  have hwrp : IntKind.i64.wrap ((p : Nat) : Int) = (p : Nat) := IntWalk.i64_in _ (by omega)
  obtain ⟨kk, hkk⟩ : ∃ q, q = k + 1 := ⟨_, rfl⟩
  obtain ⟨ix, hix⟩ : ∃ q, q = c1 + 2 := ⟨_, rfl⟩
  have e8 : (c1 : Int) + 2 = (ix : Nat) := by omega
  have e9' : ((k : Nat) : Int) + 1 = (kk : Nat) := by omega
  have k1 : IntKind.u64.wrap ((k : Nat) : Int) = (k : Nat) := IntWalk.u64_in _ (by omega)
  have k2 : IntKind.u64.wrap ((kk : Nat) : Int) = (kk : Nat) := IntWalk.u64_in _ (by omega)
  have k3 : IntKind.u64.wrap (((k : Nat) : Int) + 1) = (kk : Nat) := by rw [e9']; exact k2
  have hwrix : IntKind.i64.wrap ((ix : Nat) : Int) = (ix : Nat) := IntWalk.i64_in _ (by omega)
  obtain ⟨p1, hp1⟩ : ∃ q, q = p + 4 := ⟨_, rfl⟩
  have e10 : (p : Int) + 4 = (p1 : Nat) := by omega
  have q5 : p ≤ 9000 := by omega
  have HPL := Lib.hid (show p + 8 ≤ l.length ∧ p1 = p + 4 by omega)
  have k4 : IntKind.u64.wrap ((y0 : Nat) : Int) = (y0 : Nat) := IntWalk.u64_in _ (by omega)
  have k5 : IntKind.u64.wrap ((y1 : Nat) : Int) = (y1 : Nat) := IntWalk.u64_in _ (by omega)
  obtain ⟨G1, hG1⟩ : ∃ G, putAt (putAt l p 4 y0) p1 4 y1 = G := ⟨_, rfl⟩
  obtain ⟨H, hH⟩ : ∃ H, H = putAt G1 ix 2 kk := ⟨_, rfl⟩
  have hHH : returnD l B N k y0 y1 = H := by
    rw [hH, ← hG1, returnD, hj, show B + secN N + 4 + 8 * j = p by omega, show B + secN N + 2 = ix by omega, hkk, hp1]
  rw [hHH]
  have HPT1 := Lib.hid (show ∀ (ra : Option Addr) (rc : Nat), G1.length = l.length → ∀ W, Below w.heap.size w W → Given W w.heap.size (.slice va l.length vc) l (.slice ra l.length rc) G1 → Calls Try.prog 44 #[.agg #[.slice ra l.length rc], .int .i64 (ix : Nat), .int .i64 2, .int .u64 (kk : Nat)] W fun e w' => ∃ sa sc, e = .returned (.agg #[.slice sa l.length sc]) ∧ Given w' w.heap.size (.slice va l.length vc) l (.slice sa l.length sc) H ∧ Below W.heap.size W w' from
    fun ra rc hG1l W hb hg => (refPut_step hv hb hg hG1l ix 2 kk (by omega) hL (by omega) (by decide) (by decide)).mono fun e w' ⟨sa, sc, g1, g2, _, g4⟩ => ⟨sa, sc, g1, by rw [hH]; exact g2, g4⟩)
  have HGG := Lib.hid hG1
  clear hf1 hc1 hc2 hk hj hq hjn hp hkk hix e9' hG1 hH hHH hp1
  clear hN hsz hfit hL hok hv
  go_enter Try.func20, Try.ntmps20
  go_wp2_with fail
  refine (refRingCheck_any _ _ _ HMX.out _ _ true HC.out _).mono ?_
  rintro e w1 ⟨rfl, hb⟩
  replace HM := Lib.hid (row_keep HM.out hb)
  replace HR := Lib.hid (row_keep HR.out hb)
  replace HD := Lib.hid (row_keep HD.out hb)
  replace HB := Lib.hid (HB.out.trans (hb.mono HB.out.size))
  clear hb
  go_wp2_with fail
  go_quiet ((go_at_call 46; refine Calls.quiet_of_same (HF.out _)))
  clear htm hz hwj hwk hem e3 e6 e7
  obtain ⟨w2, hw2⟩ : ∃ u, u = w1.drewN nq := ⟨_, rfl⟩
  have hbd := below_drewN (Below.refl w1.heap.size w1) nq
  rw [← hw2] at hbd ⊢
  clear hw2
  replace HM := Lib.hid (row_keep HM.out hbd)
  replace HR := Lib.hid (row_keep HR.out hbd)
  replace HB := Lib.hid (HB.out.trans (hbd.mono HB.out.size))
  replace HD := Lib.hid (row_keep HD.out hbd)
  clear hbd
  have HS := Lib.hid (show RSt w (.slice va l.length vc) l va vc l w2 from { out := HB.out, mem := HM.out, giv := .inl ⟨rfl, rfl⟩, len := rfl })
  obtain ⟨d0, _⟩ := at_cell HD.out 0 _ rfl
  obtain ⟨c0, _⟩ := one_cell HS.out.mem
  go_wp2_with fail
  refine (refPut_step HV.out HS.out.out HS.out.giv HS.out.len p 4 y0 (by omega) HL.out (by have := HPL.out; omega) (by decide) (by decide)).mono ?_
  rintro e w3 ⟨ra0, rc0, rfl, hg, hl, hb⟩
  clear c0 d0
  have hm := row_keep HS.out.mem hb
  obtain ⟨m0, n0⟩ := one_cell hm
  replace HD := Lib.hid (one_other (row_keep HD.out hb) ⟨w.heap.size, 0, none⟩ (.slice ra0 l.length rc0) (blocks_ne (row_keep HD.out hb) hm tneUM.symm))
  replace HR := Lib.hid (one_other (row_keep HR.out hb) ⟨w.heap.size, 0, none⟩ (.slice ra0 l.length rc0) (by simp))
  replace HS := Lib.hid (HS.out.next hb hg hl)
  clear hm hg hl hb
  obtain ⟨d1, _⟩ := at_cell HD.out 1 _ rfl
  obtain ⟨c1, _⟩ := one_cell HS.out.mem
  go_wp2_with fail
  refine (refPut_step HV.out HS.out.out HS.out.giv HS.out.len p1 4 y1 (by omega) HL.out (by have := HPL.out; omega) (by decide) (by decide)).mono ?_
  rintro e w4 ⟨ra1, rc1, rfl, hg, hl, hb⟩
  clear m0 n0
  clear c1 d1
  have hm := row_keep HS.out.mem hb
  obtain ⟨m1, n1⟩ := one_cell hm
  replace HD := Lib.hid (one_other (row_keep HD.out hb) ⟨w.heap.size, 0, none⟩ (.slice ra1 l.length rc1) (blocks_ne (row_keep HD.out hb) hm tneUM.symm))
  replace HR := Lib.hid (one_other (row_keep HR.out hb) ⟨w.heap.size, 0, none⟩ (.slice ra1 l.length rc1) (by simp))
  replace HS := Lib.hid (HS.out.next hb hg hl)
  clear hm hg hl hb
  clear HD
  replace HM := Lib.hid HS.out.mem
  have HG1 := Lib.hid (show Given (w4.setCell ⟨w.heap.size, 0, none⟩ (.slice ra1 l.length rc1)) w.heap.size (.slice va l.length vc) l (.slice ra1 l.length rc1) G1 from by have h := HS.out.giv; rw [HGG.out] at h; exact h)
  have HPT := Lib.hid (HPT1.out ra1 rc1 (by have h := HS.out.len; rw [HGG.out] at h; exact h))
  replace HB := Lib.hid HS.out.out
  clear HS HPT1
  go_wp2_with fail
  clear m1 n1
  obtain ⟨w5, hw5⟩ : ∃ u, u = w4.setCell ⟨w.heap.size, 0, none⟩ (.slice ra1 l.length rc1) := ⟨_, rfl⟩
  rw [← hw5] at HM HG1 HB HR ⊢
  clear hw5
  refine wp_region_rec (X := RngRefReturnBX) (by kernel_rfl) (by kernel_rfl) (fun x => #[x.b0, x.b1, x.b2, x.b3, x.b4, x.b5, x.b6, x.b7, x.b8, x.b9, x.b10, x.b11]) (fun x => { tmps := List.toArray ((Value.agg #[Value.slice va l.length vc]) :: (Value.int IntKind.i64 ↑B) :: (Value.int IntKind.i64 ↑N) :: (Value.int IntKind.u16 ↑k) :: (Value.agg #[Value.int IntKind.u32 ↑y0, Value.int IntKind.u32 ↑y1]) :: (Value.pointer (some ⟨w.heap.size, 0, none⟩)) :: undef :: undef :: undef :: (Value.pointer (some ⟨w.heap.size + 1, 0, none⟩)) :: (Value.pointer (some ⟨w.heap.size + 1 + 1, 0, none⟩)) :: x.s11 :: (Value.int IntKind.i64 ↑p) :: (Value.agg #[Value.slice va l.length vc]) :: (Value.int IntKind.i64 ↑B) :: (Value.int IntKind.i64 ↑N) :: (Value.bool true) :: (Value.bool false) :: undef :: (Value.int IntKind.i64 ↑B) :: (Value.int IntKind.i64 ↑N) :: (Value.int IntKind.i64 ↑f1) :: (Value.int IntKind.i64 ↑c1) :: (Value.int IntKind.i64 ↑c2) :: (Value.int IntKind.u16 ↑k) :: (Value.int IntKind.i64 ↑k) :: (Value.int IntKind.i64 ↑N) :: (Value.int IntKind.i64 ↑j) :: (Value.int IntKind.i64 ↑q) :: (Value.int IntKind.i64 ↑p) :: (Value.agg #[Value.slice va l.length vc]) :: (Value.int IntKind.i64 ↑p) :: (Value.pointer (some ⟨w.heap.size + 1, 0, none⟩)) :: (Value.int IntKind.u32 ↑y0) :: (Value.int IntKind.u64 ↑y0) :: (Value.agg #[Value.slice ra0 l.length rc0]) :: (Value.agg #[Value.slice ra0 l.length rc0]) :: (Value.int IntKind.i64 ↑p) :: (Value.int IntKind.i64 ↑p1) :: (Value.pointer (some ⟨w.heap.size + 1, 1, none⟩)) :: (Value.int IntKind.u32 ↑y1) :: (Value.int IntKind.u64 ↑y1) :: (Value.agg #[Value.slice ra1 l.length rc1]) :: x.s43 :: x.s44 :: x.s45 :: x.s46 :: x.s47 :: x.s48 :: x.s49 :: x.s50 :: x.s51 :: x.s52 :: []), defers := [] }) (fun x W => (x.b0 = true → x.s43 = .agg #[.slice ra1 l.length rc1]) ∧ (x.b1 = true → x.s44 = .int .i64 (B : Nat)) ∧ (x.b2 = true → x.s45 = .int .i64 (N : Nat)) ∧ (x.b3 = true → x.s46 = .int .i64 (f1 : Nat)) ∧ (x.b4 = true → x.s47 = .int .i64 (c1 : Nat)) ∧ (x.b5 = true → x.s48 = .int .i64 (ix : Nat)) ∧ (x.b6 = true → x.s49 = .int .u16 (k : Nat)) ∧ (x.b7 = true → x.s50 = .int .u64 (k : Nat)) ∧ (x.b8 = true → x.s51 = .int .u64 (kk : Nat)) ∧ (x.b11 = true → x.s11 = .int .i64 0) ∧ (W.heap[w.heap.size]? = some (.cells #[.slice ra1 l.length rc1] 28 (0, 0))) ∧ (x.b9 = false → Given W w.heap.size (.slice va l.length vc) l (.slice ra1 l.length rc1) G1) ∧ (x.b9 = true → ∃ sa sc, x.s52 = .agg #[.slice sa l.length sc] ∧ Given W w.heap.size (.slice va l.length vc) l (.slice sa l.length sc) H) ∧ (x.b10 = false → W.heap[w.heap.size + 1 + 1]? = some (.cells #[.slice none 0 0] 28)) ∧ (x.b10 = true → ∃ sa sc, W.heap[w.heap.size + 1 + 1]? = some (.cells #[.slice sa l.length sc] 28 (0, 0)) ∧ Given W w.heap.size (.slice va l.length vc) l (.slice sa l.length sc) H) ∧ (x.b10 = true → x.b9 = true) ∧ (Below w.heap.size w W)) ⟨false, false, false, false, false, false, false, false, false, false, false, false, undef, undef, undef, undef, undef, undef, undef, undef, undef, undef, Value.int IntKind.i64 0⟩ rfl rfl ⟨(fun h => by cases h), (fun h => by cases h), (fun h => by cases h), (fun h => by cases h), (fun h => by cases h), (fun h => by cases h), (fun h => by cases h), (fun h => by cases h), (fun h => by cases h), (fun h => by cases h), HM.out, (fun _ => HG1.out.below ((Below.refl _ _).drew)), (fun h => by cases h), (fun _ => HR.out), (fun h => by cases h), (fun h => by cases h), HB.out.drew⟩ (fun _ => rfl) ?hstep ?hdone
  case hstep =>
    rintro ⟨b0, b1, b2, b3, b4, b5, b6, b7, b8, b9, b10, b11, s43, s44, s45, s46, s47, s48, s49, s50, s51, s52, s11⟩ W hI i hi
    dsimp only at hI hi ⊢
    have HI := Lib.hid hI
    clear hI
    rw [Region.ready, List.mem_filter, List.mem_range] at hi
    obtain ⟨hlt, hp⟩ := hi
    have hi7 : i = 0 ∨ i = 1 ∨ i = 2 ∨ i = 3 ∨ i = 4 ∨ i = 5 ∨ i = 6 ∨ i = 7 ∨ i = 8 ∨ i = 9 ∨ i = 10 ∨ i = 11 := by simp at hlt; omega
    clear hlt
    rcases hi7 with rfl | rfl | rfl | rfl | rfl | rfl | rfl | rfl | rfl | rfl | rfl | rfl
    all_goals simp [Region.binds] at hp
    · have hn0 : b0 = false := by revert hp; cases b0 <;> simp
      clear hp
      subst hn0
      refine inv_op (o := ⟨some 43, _, _, _, _, _⟩) rfl (fun K' hK' => ?_)
      have gM := HI.out.2.2.2.2.2.2.2.2.2.2.1
      obtain ⟨hc1, hc2⟩ := one_cell gM
      go_simp
      obtain ⟨h0, h1, h2, h3, h4, h5, h6, h7, h8, h11, gM, gG, gP, gR, gB, gC, gO⟩ := HI.out
      exact hK'.out _ _ ⟨⟨true, b1, b2, b3, b4, b5, b6, b7, b8, b9, b10, b11, _, s44, s45, s46, s47, s48, s49, s50, s51, s52, s11⟩, rfl, rfl, (fun _ => rfl), h1, h2, h3, h4, h5, h6, h7, h8, h11, gM, gG, gP, gR, gB, gC, gO⟩
    · have hn1 : b1 = false := by revert hp; cases b1 <;> simp
      clear hp
      subst hn1
      refine inv_op (o := ⟨some 44, _, _, _, _, _⟩) rfl (fun K' hK' => ?_)
      go_simp
      obtain ⟨h0, h1, h2, h3, h4, h5, h6, h7, h8, h11, gM, gG, gP, gR, gB, gC, gO⟩ := HI.out
      exact hK'.out _ _ ⟨⟨b0, true, b2, b3, b4, b5, b6, b7, b8, b9, b10, b11, s43, _, s45, s46, s47, s48, s49, s50, s51, s52, s11⟩, rfl, rfl, h0, (fun _ => rfl), h2, h3, h4, h5, h6, h7, h8, h11, gM, gG, gP, gR, gB, gC, gO⟩
    · have hn2 : b2 = false := by revert hp; cases b2 <;> simp
      clear hp
      subst hn2
      refine inv_op (o := ⟨some 45, _, _, _, _, _⟩) rfl (fun K' hK' => ?_)
      go_simp
      obtain ⟨h0, h1, h2, h3, h4, h5, h6, h7, h8, h11, gM, gG, gP, gR, gB, gC, gO⟩ := HI.out
      exact hK'.out _ _ ⟨⟨b0, b1, true, b3, b4, b5, b6, b7, b8, b9, b10, b11, s43, s44, _, s46, s47, s48, s49, s50, s51, s52, s11⟩, rfl, rfl, h0, h1, (fun _ => rfl), h3, h4, h5, h6, h7, h8, h11, gM, gG, gP, gR, gB, gC, gO⟩
    · have hn3 : b3 = false := by revert hp; cases b3 <;> simp
      have e2 : b2 = true := by revert hp; cases b2 <;> simp
      clear hp
      obtain rfl := (HI.out.2.2.1) e2
      subst hn3
      refine inv_op (o := ⟨some 46, _, _, _, _, _⟩) rfl (fun K' hK' => ?_)
      go_simp
      refine (HF.out W).mono ?_
      rintro e w2 ⟨rfl, rfl⟩
      obtain ⟨h0, h1, h2, h3, h4, h5, h6, h7, h8, h11, gM, gG, gP, gR, gB, gC, gO⟩ := HI.out
      exact hK'.out _ _ ⟨⟨b0, b1, b2, true, b4, b5, b6, b7, b8, b9, b10, b11, s43, s44, _, _, s47, s48, s49, s50, s51, s52, s11⟩, rfl, rfl, h0, h1, h2, (fun _ => rfl), h4, h5, h6, h7, h8, h11, gM, gG, gP, gR, gB, gC, gO⟩
    · have hn4 : b4 = false := by revert hp; cases b4 <;> simp
      have e1 : b1 = true := by revert hp; cases b1 <;> simp
      have e3 : b3 = true := by revert hp; cases b3 <;> simp
      clear hp
      obtain rfl := (HI.out.2.1) e1
      obtain rfl := (HI.out.2.2.2.1) e3
      subst hn4
      refine inv_op (o := ⟨some 47, _, _, _, _, _⟩) rfl (fun K' hK' => ?_)
      go_simp
      obtain ⟨h0, h1, h2, h3, h4, h5, h6, h7, h8, h11, gM, gG, gP, gR, gB, gC, gO⟩ := HI.out
      exact hK'.out _ _ ⟨⟨b0, b1, b2, b3, true, b5, b6, b7, b8, b9, b10, b11, s43, _, s45, _, _, s48, s49, s50, s51, s52, s11⟩, rfl, rfl, h0, h1, h2, h3, (fun _ => rfl), h5, h6, h7, h8, h11, gM, gG, gP, gR, gB, gC, gO⟩
    · have hn5 : b5 = false := by revert hp; cases b5 <;> simp
      have e4 : b4 = true := by revert hp; cases b4 <;> simp
      clear hp
      obtain rfl := (HI.out.2.2.2.2.1) e4
      subst hn5
      refine inv_op (o := ⟨some 48, _, _, _, _, _⟩) rfl (fun K' hK' => ?_)
      go_simp
      obtain ⟨h0, h1, h2, h3, h4, h5, h6, h7, h8, h11, gM, gG, gP, gR, gB, gC, gO⟩ := HI.out
      exact hK'.out _ _ ⟨⟨b0, b1, b2, b3, b4, true, b6, b7, b8, b9, b10, b11, s43, s44, s45, s46, _, _, s49, s50, s51, s52, s11⟩, rfl, rfl, h0, h1, h2, h3, h4, (fun _ => rfl), h6, h7, h8, h11, gM, gG, gP, gR, gB, gC, gO⟩
    · have hn6 : b6 = false := by revert hp; cases b6 <;> simp
      clear hp
      subst hn6
      refine inv_op (o := ⟨some 49, _, _, _, _, _⟩) rfl (fun K' hK' => ?_)
      go_simp
      obtain ⟨h0, h1, h2, h3, h4, h5, h6, h7, h8, h11, gM, gG, gP, gR, gB, gC, gO⟩ := HI.out
      exact hK'.out _ _ ⟨⟨b0, b1, b2, b3, b4, b5, true, b7, b8, b9, b10, b11, s43, s44, s45, s46, s47, s48, _, s50, s51, s52, s11⟩, rfl, rfl, h0, h1, h2, h3, h4, h5, (fun _ => rfl), h7, h8, h11, gM, gG, gP, gR, gB, gC, gO⟩
    · have hn7 : b7 = false := by revert hp; cases b7 <;> simp
      have e6 : b6 = true := by revert hp; cases b6 <;> simp
      clear hp
      obtain rfl := (HI.out.2.2.2.2.2.2.1) e6
      subst hn7
      refine inv_op (o := ⟨some 50, _, _, _, _, _⟩) rfl (fun K' hK' => ?_)
      go_simp
      obtain ⟨h0, h1, h2, h3, h4, h5, h6, h7, h8, h11, gM, gG, gP, gR, gB, gC, gO⟩ := HI.out
      exact hK'.out _ _ ⟨⟨b0, b1, b2, b3, b4, b5, b6, true, b8, b9, b10, b11, s43, s44, s45, s46, s47, s48, _, _, s51, s52, s11⟩, rfl, rfl, h0, h1, h2, h3, h4, h5, h6, (fun _ => rfl), h8, h11, gM, gG, gP, gR, gB, gC, gO⟩
    · have hn8 : b8 = false := by revert hp; cases b8 <;> simp
      have e7 : b7 = true := by revert hp; cases b7 <;> simp
      clear hp
      obtain rfl := (HI.out.2.2.2.2.2.2.2.1) e7
      subst hn8
      refine inv_op (o := ⟨some 51, _, _, _, _, _⟩) rfl (fun K' hK' => ?_)
      go_simp
      obtain ⟨h0, h1, h2, h3, h4, h5, h6, h7, h8, h11, gM, gG, gP, gR, gB, gC, gO⟩ := HI.out
      exact hK'.out _ _ ⟨⟨b0, b1, b2, b3, b4, b5, b6, b7, true, b9, b10, b11, s43, s44, s45, s46, s47, s48, s49, _, _, s52, s11⟩, rfl, rfl, h0, h1, h2, h3, h4, h5, h6, h7, (fun _ => rfl), h11, gM, gG, gP, gR, gB, gC, gO⟩
    · have hn9 : b9 = false := by revert hp; cases b9 <;> simp
      have e0 : b0 = true := by revert hp; cases b0 <;> simp
      have e5 : b5 = true := by revert hp; cases b5 <;> simp
      have e8 : b8 = true := by revert hp; cases b8 <;> simp
      clear hp
      obtain rfl := (HI.out.1) e0
      obtain rfl := (HI.out.2.2.2.2.2.1) e5
      obtain rfl := (HI.out.2.2.2.2.2.2.2.2.1) e8
      subst hn9
      refine inv_op (o := ⟨some 52, _, _, _, _, _⟩) rfl (fun K' hK' => ?_)
      have gG := HI.out.2.2.2.2.2.2.2.2.2.2.2.1
      have gO := HI.out.2.2.2.2.2.2.2.2.2.2.2.2.2.2.2.2
      go_simp
      refine (HPT.out W gO (gG rfl)).mono ?_
      rintro e w9 ⟨sa, sc, rfl, hg, bn⟩
      obtain ⟨h0, h1, h2, h3, h4, h5, h6, h7, h8, h11, gM, gG, gP, gR, gB, gC, gO⟩ := HI.out
      exact hK'.out _ _ ⟨⟨b0, b1, b2, b3, b4, b5, b6, b7, b8, true, b10, b11, _, s44, s45, s46, s47, _, s49, s50, _, _, s11⟩, rfl, rfl, h0, h1, h2, h3, h4, h5, h6, h7, h8, h11, (row_keep gM bn), (fun e => by cases e), (fun _ => ⟨sa, sc, rfl, hg⟩), (fun e => row_keep (gR e) bn), (fun e => by have h9 := gC e; cases h9), (fun _ => rfl), (gO.trans (bn.mono gO.size))⟩
    · have hn10 : b10 = false := by revert hp; cases b10 <;> simp
      have e0 : b0 = true := by revert hp; cases b0 <;> simp
      have e1 : b1 = true := by revert hp; cases b1 <;> simp
      have e2 : b2 = true := by revert hp; cases b2 <;> simp
      have e3 : b3 = true := by revert hp; cases b3 <;> simp
      have e4 : b4 = true := by revert hp; cases b4 <;> simp
      have e5 : b5 = true := by revert hp; cases b5 <;> simp
      have e6 : b6 = true := by revert hp; cases b6 <;> simp
      have e7 : b7 = true := by revert hp; cases b7 <;> simp
      have e8 : b8 = true := by revert hp; cases b8 <;> simp
      have e9 : b9 = true := by revert hp; cases b9 <;> simp
      clear hp
      subst hn10
      refine inv_op (o := ⟨none, _, _, _, _, _⟩) rfl (fun K' hK' => ?_)
      have gP := HI.out.2.2.2.2.2.2.2.2.2.2.2.2.1
      have gR := HI.out.2.2.2.2.2.2.2.2.2.2.2.2.2.1
      obtain ⟨sa, sc, rfl, hg⟩ := gP e9
      have hrow := gR rfl
      obtain ⟨hc1, hc2⟩ := one_cell hrow
      go_simp
      obtain ⟨h0, h1, h2, h3, h4, h5, h6, h7, h8, h11, gM, gG, gP, gR, gB, gC, gO⟩ := HI.out
      exact hK'.out _ _ ⟨⟨b0, b1, b2, b3, b4, b5, b6, b7, b8, b9, true, b11, s43, s44, s45, s46, s47, s48, s49, s50, s51, _, s11⟩, rfl, rfl, h0, h1, h2, h3, h4, h5, h6, h7, h8, h11, (one_other gM _ _ (by simp; try omega)), (fun e => by rw [e9] at e; cases e), (fun _ => ⟨sa, sc, rfl, hg.far hrow tneMU _⟩), (fun e => by cases e), (fun _ => ⟨sa, sc, one_set hrow _, hg.far hrow tneMU _⟩), (fun _ => e9), (gO.setCell (by simp; try omega) _)⟩
    · have hn11 : b11 = false := by revert hp; cases b11 <;> simp
      clear hp
      subst hn11
      refine inv_op (o := ⟨some 11, _, _, _, _, _⟩) rfl (fun K' hK' => ?_)
      go_simp
      obtain ⟨h0, h1, h2, h3, h4, h5, h6, h7, h8, h11, gM, gG, gP, gR, gB, gC, gO⟩ := HI.out
      exact hK'.out _ _ ⟨⟨b0, b1, b2, b3, b4, b5, b6, b7, b8, b9, b10, true, s43, s44, s45, s46, s47, s48, s49, s50, s51, s52, _⟩, rfl, rfl, h0, h1, h2, h3, h4, h5, h6, h7, h8, (fun _ => rfl), gM, gG, gP, gR, gB, gC, gO⟩
  case hdone =>
    rintro ⟨b0, b1, b2, b3, b4, b5, b6, b7, b8, b9, b10, b11, s43, s44, s45, s46, s47, s48, s49, s50, s51, s52, s11⟩ W hI hall
    dsimp only at hI hall ⊢
    have HI := Lib.hid hI
    clear hI
    obtain rfl : b0 = true := hall 0 (by decide)
    obtain rfl : b1 = true := hall 1 (by decide)
    obtain rfl : b2 = true := hall 2 (by decide)
    obtain rfl : b3 = true := hall 3 (by decide)
    obtain rfl : b4 = true := hall 4 (by decide)
    obtain rfl : b5 = true := hall 5 (by decide)
    obtain rfl : b6 = true := hall 6 (by decide)
    obtain rfl : b7 = true := hall 7 (by decide)
    obtain rfl : b8 = true := hall 8 (by decide)
    obtain rfl : b9 = true := hall 9 (by decide)
    obtain rfl : b10 = true := hall 10 (by decide)
    obtain rfl : b11 = true := hall 11 (by decide)
    obtain rfl := (HI.out.2.2.2.2.2.2.2.2.2.1) rfl
    have gB := HI.out.2.2.2.2.2.2.2.2.2.2.2.2.2.2.1
    have gO := HI.out.2.2.2.2.2.2.2.2.2.2.2.2.2.2.2.2
    clear HI hall
    obtain ⟨sa, sc, hrow, hg⟩ := gB rfl
    obtain ⟨r0, f0⟩ := one_cell hrow
    have HG9 := Lib.hid hg
    have HO9 := Lib.hid gO
    clear hrow hg gB gO f0
    go_wp2
    refine bodyPost_ret (v := .tuple #[.agg #[.slice sa l.length sc], .int .i64 0]) (by simp [results, Try.results20, go_sem, r0]) rfl ⟨sa, sc, rfl, HG9.out, HO9.out⟩
end Go.Proofs.Ytofeiheomnpggaa
