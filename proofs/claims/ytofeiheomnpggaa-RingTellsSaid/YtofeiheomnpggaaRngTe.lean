/- The law RingTells returns true for every input. -/
import Derived.Test.YtofeiheomnpggaaRngHe
import Derived.Test.YtofeiheomnpggaaOpenR
namespace Go.Proofs.Ytofeiheomnpggaa
open Go.RowKit Go.Lib

theorem three_args (w : World) (u : Value) (a n f x y0 y1 : Nat) : (((w.alloc (.cells #[u] 28)).alloc (.cells #[.int .u64 (a : Nat), .int .u32 (n : Nat), .int .u16 (f : Nat), .int .u16 (x : Nat)] 44)).alloc (.cells #[.int .u32 (y0 : Nat), .int .u32 (y1 : Nat)] 25)).heap[w.heap.size]? = some (.cells #[u] 28 (0, 0)) ∧ (((w.alloc (.cells #[u] 28)).alloc (.cells #[.int .u64 (a : Nat), .int .u32 (n : Nat), .int .u16 (f : Nat), .int .u16 (x : Nat)] 44)).alloc (.cells #[.int .u32 (y0 : Nat), .int .u32 (y1 : Nat)] 25)).heap[w.heap.size + 1]? = some (.cells #[.int .u64 (a : Nat), .int .u32 (n : Nat), .int .u16 (f : Nat), .int .u16 (x : Nat)] 44) ∧ (((w.alloc (.cells #[u] 28)).alloc (.cells #[.int .u64 (a : Nat), .int .u32 (n : Nat), .int .u16 (f : Nat), .int .u16 (x : Nat)] 44)).alloc (.cells #[.int .u32 (y0 : Nat), .int .u32 (y1 : Nat)] 25)).heap[w.heap.size + 1 + 1]? = some (.cells #[.int .u32 (y0 : Nat), .int .u32 (y1 : Nat)] 25) ∧ Below w.heap.size w (((w.alloc (.cells #[u] 28)).alloc (.cells #[.int .u64 (a : Nat), .int .u32 (n : Nat), .int .u16 (f : Nat), .int .u16 (x : Nat)] 44)).alloc (.cells #[.int .u32 (y0 : Nat), .int .u32 (y1 : Nat)] 25)) := by
  refine ⟨row_keep (row_keep (heap_alloc_new w _) ((Below.refl _ _).alloc (Nat.le_refl _) (.cells #[.int .u64 (a : Nat), .int .u32 (n : Nat), .int .u16 (f : Nat), .int .u16 (x : Nat)] 44))) ((Below.refl _ _).alloc (Nat.le_refl _) _), row_keep (by simpa using heap_alloc_new (w.alloc (.cells #[u] 28)) (.cells #[.int .u64 (a : Nat), .int .u32 (n : Nat), .int .u16 (f : Nat), .int .u16 (x : Nat)] 44)) ((Below.refl _ _).alloc (Nat.le_refl _) _), by simpa using heap_alloc_new ((w.alloc (.cells #[u] 28)).alloc (.cells #[.int .u64 (a : Nat), .int .u32 (n : Nat), .int .u16 (f : Nat), .int .u16 (x : Nat)] 44)) (.cells #[.int .u32 (y0 : Nat), .int .u32 (y1 : Nat)] 25), (((Below.refl _ _).alloc (Nat.le_refl _) _).alloc (by simp) _).alloc (by simp; omega) _⟩
theorem arg_max {w : World} {v : Value} {l : List UInt8} (h : IsArg w v l) : l.length ≤ maxLen := by
  rcases h.1 with ⟨_, _, _, rfl⟩ | ⟨_, _, _, _, h1, h2, _⟩
  · exact Nat.zero_le _
  · omega

set_option maxHeartbeats 4000000 in
set_option maxRecDepth 100000 in
theorem ringTells_out (w : World) (v : Value) (l : List UInt8) (hv : IsArg w v l) (b z i : Int) (da dn df dx k u0 u1 : Nat) (h : ¬ l.length ≤ 3000) :
    Calls Try.prog 4 #[.agg #[v], .int .i64 b, .int .i64 z, .int .i64 i, .agg #[.int .u64 (da : Nat), .int .u32 (dn : Nat), .int .u16 (df : Nat), .int .u16 (dx : Nat)], .int .u16 (k : Nat), .agg #[.int .u32 (u0 : Nat), .int .u32 (u1 : Nat)]] w fun e w' => e = .returned (.bool true) ∧ Below w.heap.size w w' := by
  obtain ⟨va, vc, rfl, _⟩ := hv.shape
  obtain ⟨t1, t2, t3, t4⟩ := three_args w (.slice va l.length vc) da dn df dx u0 u1
  have Rm := Lib.hid t1
  have Rd := Lib.hid t2
  have Ru := Lib.hid t3
  have BW := Lib.hid t4
  have HMX := Lib.hid (arg_max hv)
  have HV := Lib.hid hv
  clear t1 t2 t3 t4 hv
  have HD := Lib.hid (show false = decide (l.length ≤ 3000) from (decide_eq_false h).symm)
  clear h
  go_enter Try.func4, Try.ntmps4
  go_wp2_with fail
  refine (few_any _ _ _ HMX.out false HD.out _).mono ?_
  rintro e w1 ⟨rfl, hb⟩
  replace Rm := Lib.hid (row_keep Rm.out hb)
  replace Rd := Lib.hid (row_keep Rd.out hb)
  replace Ru := Lib.hid (row_keep Ru.out hb)
  replace BW := Lib.hid (BW.out.trans (hb.mono BW.out.size))
  clear hb
  go_wp2_with fail
  refine (heads_any _).mono ?_
  rintro e w2 ⟨rfl, hb⟩
  replace Rm := Lib.hid (row_keep Rm.out hb)
  replace Rd := Lib.hid (row_keep Rd.out hb)
  replace Ru := Lib.hid (row_keep Ru.out hb)
  replace BW := Lib.hid (BW.out.trans (hb.mono BW.out.size))
  clear hb
  go_wp2
  go_ret
  exact ⟨rfl, BW.out⟩
structure RingTellsX where
  b0 : Bool
  b1 : Bool
  b2 : Bool
  b3 : Bool
  b4 : Bool
  b5 : Bool
  b6 : Bool
  b7 : Bool
  b8 : Bool
  b9 : Bool
  b10 : Bool
  b11 : Bool
  b12 : Bool
  b13 : Bool
  b14 : Bool
  b15 : Bool
  b16 : Bool
  b17 : Bool
  b18 : Bool
  b19 : Bool
  b20 : Bool
  b21 : Bool
  b22 : Bool
  b23 : Bool
  b24 : Bool
  b25 : Bool
  b26 : Bool
  b27 : Bool
  b28 : Bool
  b29 : Bool
  b30 : Bool
  b31 : Bool
  b32 : Bool
  b33 : Bool
  b34 : Bool
  b35 : Bool
  b36 : Bool
  b37 : Bool
  b38 : Bool
  b39 : Bool
  s218 : Value
  s219 : Value
  s220 : Value
  s221 : Value
  s222 : Value
  s223 : Value
  s224 : Value
  s225 : Value
  s226 : Value
  s227 : Value
  s228 : Value
  s229 : Value
  s230 : Value
  s231 : Value
  s232 : Value
  s233 : Value
  s234 : Value
  s235 : Value
  s236 : Value
  s237 : Value
  s238 : Value
  s239 : Value
  s240 : Value
  s241 : Value
  s242 : Value
  s243 : Value
  s244 : Value
  s245 : Value
  s246 : Value
  s247 : Value
  s248 : Value
  s249 : Value
  s250 : Value
  s251 : Value
  s252 : Value
  s253 : Value
  s254 : Value
  s255 : Value
  s256 : Value
  s14 : Value

set_option maxHeartbeats 8000000 in
set_option maxRecDepth 100000 in
theorem ringTells_in (w : World) (v : Value) (l : List UInt8) (hv : IsArg w v l) (b z i : Int) (da : Nat) (hda : da < 18446744073709551616) (dn : Nat) (hdn : dn < 4294967296) (df : Nat) (hdf : df < 65536) (dx : Nat) (hdx : dx < 65536) (k : Nat) (hk : k < 65536) (u0 : Nat) (hu0 : u0 < 4294967296) (u1 : Nat) (hu1 : u1 < 4294967296) (h : l.length ≤ 3000) :
    Calls Try.prog 4 #[.agg #[v], .int .i64 b, .int .i64 z, .int .i64 i, .agg #[.int .u64 (da : Nat), .int .u32 (dn : Nat), .int .u16 (df : Nat), .int .u16 (dx : Nat)], .int .u16 (k : Nat), .agg #[.int .u32 (u0 : Nat), .int .u32 (u1 : Nat)]] w fun e w' => e = .returned (.bool true) ∧ Below w.heap.size w w' := by
  obtain ⟨va, vc, rfl, _⟩ := hv.shape
  obtain ⟨t1, t2, t3, t4⟩ := three_args w (.slice va l.length vc) da dn df dx u0 u1
  have Rm := Lib.hid t1
  have Rd := Lib.hid t2
  have Ru := Lib.hid t3
  have BW := Lib.hid t4
  have HMX := Lib.hid (arg_max hv)
  have HV := Lib.hid hv
  clear t1 t2 t3 t4 hv
  have HD := Lib.hid (show true = decide (l.length ≤ 3000) from (decide_eq_true h).symm)
  have HL := Lib.hid (show l.length ≤ 140737488355328 by omega)
  have HDA := Lib.hid hda
  have HDN := Lib.hid hdn
  have HDF := Lib.hid hdf
  have HDX := Lib.hid hdx
  have HK := Lib.hid hk
  have HU0 := Lib.hid hu0
  have HU1 := Lib.hid hu1
  obtain ⟨FD, hFD⟩ : ∃ y, descF l.length b z i = y := ⟨_, rfl⟩
  have HFD := Lib.hid hFD
  clear hFD
  obtain ⟨F, hF⟩ : ∃ y, ringF l.length b z = y := ⟨_, rfl⟩
  have HF := Lib.hid hF
  clear hF
  obtain ⟨x0, hx0⟩ : ∃ y, descX l b z i 0 8 = y := ⟨_, rfl⟩
  have H0 := Lib.hid hx0
  clear hx0
  obtain ⟨x1, hx1⟩ : ∃ y, descX l b z i 8 4 = y := ⟨_, rfl⟩
  have H1 := Lib.hid hx1
  clear hx1
  obtain ⟨x2, hx2⟩ : ∃ y, descX l b z i 12 2 = y := ⟨_, rfl⟩
  have H2 := Lib.hid hx2
  clear hx2
  obtain ⟨x3, hx3⟩ : ∃ y, descX l b z i 14 2 = y := ⟨_, rfl⟩
  have H3 := Lib.hid hx3
  clear hx3
  obtain ⟨G1, hG1⟩ : ∃ y, setX l b z i da dn df dx = y := ⟨_, rfl⟩
  have HG1 := Lib.hid hG1
  clear hG1
  obtain ⟨G2, hG2⟩ : ∃ y, offerX l b z k i = y := ⟨_, rfl⟩
  have HG2 := Lib.hid hG2
  clear hG2
  obtain ⟨G3, hG3⟩ : ∃ y, returnX l b z k u0 u1 = y := ⟨_, rfl⟩
  have HG3 := Lib.hid hG3
  clear hG3
  obtain ⟨ya, hya⟩ : ∃ y, availX l b z = y := ⟨_, rfl⟩
  have HYA := Lib.hid hya
  clear hya
  obtain ⟨yu, hyu⟩ : ∃ y, usedX l b z = y := ⟨_, rfl⟩
  have HYU := Lib.hid hyu
  clear hyu
  obtain ⟨ye, hye⟩ : ∃ y, availAtX l b z k = y := ⟨_, rfl⟩
  have HYE := Lib.hid hye
  clear hye
  obtain ⟨e0, he0⟩ : ∃ y, usedAtX l b z k 0 = y := ⟨_, rfl⟩
  have HE0 := Lib.hid he0
  clear he0
  obtain ⟨e1, he1⟩ : ∃ y, usedAtX l b z k 4 = y := ⟨_, rfl⟩
  have HE1 := Lib.hid he1
  clear he1
  obtain ⟨sz, hsz⟩ : ∃ y, sizeZ z = y := ⟨_, rfl⟩
  have HS := Lib.hid hsz
  clear hsz
  obtain ⟨ck, hck⟩ : ∃ y, okR l.length b z = y := ⟨_, rfl⟩
  have HC := Lib.hid hck
  clear hck
  clear h hda hdn hdf hdx hk hu0 hu1
  go_enter Try.func4, Try.ntmps4
  go_wp2_with fail
  refine (few_any _ _ _ HMX.out true HD.out _).mono ?_
  rintro e w1 ⟨rfl, hb⟩
  replace Rm := Lib.hid (row_keep Rm.out hb)
  replace Rd := Lib.hid (row_keep Rd.out hb)
  replace Ru := Lib.hid (row_keep Ru.out hb)
  replace BW := Lib.hid (BW.out.trans (hb.mono BW.out.size))
  clear hb
  obtain ⟨lRm0c1, zRm0c1⟩ := at_cell Rm.out 0 _ rfl
  clear zRm0c1
  go_wp2_with fail
  refine (desc_any _ l b z i FD x0 x1 x2 x3 HFD.out H0.out H1.out H2.out H3.out HMX.out _ (HV.out.below BW.out)).mono ?_
  rintro e w2 ⟨rfl, hb⟩
  clear lRm0c1
  replace Rm := Lib.hid (row_keep Rm.out hb)
  replace Rd := Lib.hid (row_keep Rd.out hb)
  replace Ru := Lib.hid (row_keep Ru.out hb)
  replace BW := Lib.hid (BW.out.trans (hb.mono BW.out.size))
  clear hb
  have hbx : Below (w2).heap.size (w2) ((w2).alloc (.cells #[.int .u64 (x0 : Nat), .int .u32 (x1 : Nat), .int .u16 (x2 : Nat), .int .u16 (x3 : Nat)] 44)) := (Below.refl _ _).alloc (Nat.le_refl _) _
  replace Rm := Lib.hid (row_keep Rm.out hbx)
  replace Rd := Lib.hid (row_keep Rd.out hbx)
  replace Ru := Lib.hid (row_keep Ru.out hbx)
  replace BW := Lib.hid (BW.out.trans (hbx.mono BW.out.size))
  have Ra := Lib.hid (heap_alloc_new (w2) (.cells #[.int .u64 (x0 : Nat), .int .u32 (x1 : Nat), .int .u16 (x2 : Nat), .int .u16 (x3 : Nat)] 44))
  clear hbx
  obtain ⟨lRm0c2, zRm0c2⟩ := at_cell Rm.out 0 _ rfl
  clear zRm0c2
  go_wp2_with fail
  refine (refDesc_any _ l b z i FD x0 x1 x2 x3 HFD.out H0.out H1.out H2.out H3.out HL.out _ (HV.out.below BW.out)).mono ?_
  rintro e w3 ⟨rfl, hb⟩
  clear lRm0c2
  replace Rm := Lib.hid (row_keep Rm.out hb)
  replace Rd := Lib.hid (row_keep Rd.out hb)
  replace Ru := Lib.hid (row_keep Ru.out hb)
  replace BW := Lib.hid (BW.out.trans (hb.mono BW.out.size))
  replace Ra := Lib.hid (row_keep Ra.out hb)
  clear hb
  have hbx : Below (w3).heap.size (w3) ((w3).alloc (.cells #[.int .u64 (x0 : Nat), .int .u32 (x1 : Nat), .int .u16 (x2 : Nat), .int .u16 (x3 : Nat)] 44)) := (Below.refl _ _).alloc (Nat.le_refl _) _
  replace Rm := Lib.hid (row_keep Rm.out hbx)
  replace Rd := Lib.hid (row_keep Rd.out hbx)
  replace Ru := Lib.hid (row_keep Ru.out hbx)
  replace BW := Lib.hid (BW.out.trans (hbx.mono BW.out.size))
  replace Ra := Lib.hid (row_keep Ra.out hbx)
  have Rb := Lib.hid (heap_alloc_new (w3) (.cells #[.int .u64 (x0 : Nat), .int .u32 (x1 : Nat), .int .u16 (x2 : Nat), .int .u16 (x3 : Nat)] 44))
  clear hbx
  obtain ⟨lRa0c3, zRa0c3⟩ := at_cell Ra.out 0 _ rfl
  clear zRa0c3
  obtain ⟨lRa1c4, zRa1c4⟩ := at_cell Ra.out 1 _ rfl
  clear zRa1c4
  obtain ⟨lRa2c5, zRa2c5⟩ := at_cell Ra.out 2 _ rfl
  clear zRa2c5
  obtain ⟨lRa3c6, zRa3c6⟩ := at_cell Ra.out 3 _ rfl
  clear zRa3c6
  obtain ⟨lRb0c7, zRb0c7⟩ := at_cell Rb.out 0 _ rfl
  clear zRb0c7
  obtain ⟨lRb1c8, zRb1c8⟩ := at_cell Rb.out 1 _ rfl
  clear zRb1c8
  obtain ⟨lRb2c9, zRb2c9⟩ := at_cell Rb.out 2 _ rfl
  clear zRb2c9
  obtain ⟨lRb3c10, zRb3c10⟩ := at_cell Rb.out 3 _ rfl
  clear zRb3c10
  obtain ⟨lRm0c11, zRm0c11⟩ := at_cell Rm.out 0 _ rfl
  clear zRm0c11
  obtain ⟨lRd0c12, zRd0c12⟩ := at_cell Rd.out 0 _ rfl
  clear zRd0c12
  obtain ⟨lRd1c13, zRd1c13⟩ := at_cell Rd.out 1 _ rfl
  clear zRd1c13
  obtain ⟨lRd2c14, zRd2c14⟩ := at_cell Rd.out 2 _ rfl
  clear zRd2c14
  obtain ⟨lRd3c15, zRd3c15⟩ := at_cell Rd.out 3 _ rfl
  clear zRd3c15
  have hq1 := desc_neq x0 x1 x2 x3 x0 x1 x2 x3 true (by simp)
  go_wp2_with fail
  refine (setDesc_any _ l b z i da dn df dx HDN.out HDF.out HDX.out FD G1 HFD.out HG1.out HL.out _ (HV.out.below BW.out)).mono ?_
  rintro e w4 ⟨ap1, cp1, rfl, hd, hb⟩
  replace hd := hd.base BW.out.size
  clear lRa0c3 lRa1c4 lRa2c5 lRa3c6 lRb0c7 lRb1c8 lRb2c9 lRb3c10 lRm0c11 lRd0c12 lRd1c13 lRd2c14 lRd3c15
  replace Rm := Lib.hid (row_keep Rm.out hb)
  replace Rd := Lib.hid (row_keep Rd.out hb)
  replace Ru := Lib.hid (row_keep Ru.out hb)
  replace BW := Lib.hid (BW.out.trans (hb.mono BW.out.size))
  replace Ra := Lib.hid (row_keep Ra.out hb)
  replace Rb := Lib.hid (row_keep Rb.out hb)
  have Pp1 := Lib.hid hd
  clear hd hb
  clear hq1 Ra Rb
  have hlow := (Array.getElem?_eq_some_iff.1 Ru.out).1
  have hbx : Below (w4).heap.size (w4) ((w4).alloc (.cells #[.slice ap1 l.length cp1] 28)) := (Below.refl _ _).alloc (Nat.le_refl _) _
  replace Rm := Lib.hid (row_keep Rm.out hbx)
  replace Rd := Lib.hid (row_keep Rd.out hbx)
  replace Ru := Lib.hid (row_keep Ru.out hbx)
  replace BW := Lib.hid (BW.out.trans (hbx.mono BW.out.size))
  replace Pp1 := Lib.hid (Pp1.out.below hbx)
  have Rp := Lib.hid (heap_alloc_new (w4) (.cells #[.slice ap1 l.length cp1] 28))
  clear hbx
  obtain ⟨gp, hgp⟩ : ∃ x, x = (w4).heap.size := ⟨_, rfl⟩
  have Lgp := Lib.hid (show w.heap.size + 1 + 1 < gp from by rw [hgp]; exact hlow)
  clear hlow
  obtain ⟨lRm0c16, zRm0c16⟩ := at_cell Rm.out 0 _ rfl
  clear zRm0c16
  obtain ⟨lRd0c17, zRd0c17⟩ := at_cell Rd.out 0 _ rfl
  clear zRd0c17
  obtain ⟨lRd1c18, zRd1c18⟩ := at_cell Rd.out 1 _ rfl
  clear zRd1c18
  obtain ⟨lRd2c19, zRd2c19⟩ := at_cell Rd.out 2 _ rfl
  clear zRd2c19
  obtain ⟨lRd3c20, zRd3c20⟩ := at_cell Rd.out 3 _ rfl
  clear zRd3c20
  go_wp2_with fail
  rw [← hgp] at Rp ⊢
  clear hgp
  refine (refSetDesc_any _ l b z i da dn df dx HDA.out HDN.out HDF.out HDX.out FD G1 HFD.out HG1.out HL.out _ (HV.out.below BW.out)).mono ?_
  rintro e w5 ⟨aq1, cq1, rfl, hd, hb⟩
  replace hd := hd.base BW.out.size
  clear lRm0c16 lRd0c17 lRd1c18 lRd2c19 lRd3c20
  replace Rm := Lib.hid (row_keep Rm.out hb)
  replace Rd := Lib.hid (row_keep Rd.out hb)
  replace Ru := Lib.hid (row_keep Ru.out hb)
  replace BW := Lib.hid (BW.out.trans (hb.mono BW.out.size))
  replace Pp1 := Lib.hid (Pp1.out.below hb)
  replace Rp := Lib.hid (row_keep Rp.out hb)
  have Pq1 := Lib.hid hd
  clear hd hb
  have hlow := (Array.getElem?_eq_some_iff.1 Rp.out).1
  have hbx : Below (w5).heap.size (w5) ((w5).alloc (.cells #[.slice aq1 l.length cq1] 28)) := (Below.refl _ _).alloc (Nat.le_refl _) _
  replace Rm := Lib.hid (row_keep Rm.out hbx)
  replace Rd := Lib.hid (row_keep Rd.out hbx)
  replace Ru := Lib.hid (row_keep Ru.out hbx)
  replace BW := Lib.hid (BW.out.trans (hbx.mono BW.out.size))
  replace Pp1 := Lib.hid (Pp1.out.below hbx)
  replace Rp := Lib.hid (row_keep Rp.out hbx)
  replace Pq1 := Lib.hid (Pq1.out.below hbx)
  have Rq := Lib.hid (heap_alloc_new (w5) (.cells #[.slice aq1 l.length cq1] 28))
  clear hbx
  obtain ⟨gq, hgq⟩ : ∃ x, x = (w5).heap.size := ⟨_, rfl⟩
  have Lgq := Lib.hid (show gp < gq from by rw [hgq]; exact hlow)
  clear hlow
  obtain ⟨lRp0c21, zRp0c21⟩ := at_cell Rp.out 0 _ rfl
  clear zRp0c21
  go_wp2_with fail
  rw [← hgq] at Rq ⊢
  clear hgq
  have NE := Lib.hid (show gp ≠ gq ∧ gq ≠ gp ∧ w.heap.size + 1 + 1 < gp ∧ w.heap.size + 1 + 1 < gq from by have h1 := Lgp.out; have h2 := Lgq.out; omega)
  clear Lgp Lgq
  refine (alike_any _ _ G1 _ (Pp1.out.arg HV.out BW.out) (Pq1.out.arg HV.out BW.out)).mono ?_
  rintro e w6 ⟨rfl, hb⟩
  clear lRp0c21
  replace Rm := Lib.hid (row_keep Rm.out hb)
  replace Rd := Lib.hid (row_keep Rd.out hb)
  replace Ru := Lib.hid (row_keep Ru.out hb)
  replace BW := Lib.hid (BW.out.trans (hb.mono BW.out.size))
  replace Pp1 := Lib.hid (Pp1.out.below hb)
  replace Rp := Lib.hid (row_keep Rp.out hb)
  replace Pq1 := Lib.hid (Pq1.out.below hb)
  replace Rq := Lib.hid (row_keep Rq.out hb)
  clear hb
  clear Pp1 Pq1
  obtain ⟨lRm0c22, zRm0c22⟩ := at_cell Rm.out 0 _ rfl
  clear zRm0c22
  go_wp2_with fail
  refine (offer_any _ l b z k HK.out i F G2 HF.out HG2.out HL.out _ (HV.out.below BW.out)).mono ?_
  rintro e w7 ⟨ap2, cp2, rfl, hd, hb⟩
  replace hd := hd.base BW.out.size
  clear lRm0c22
  replace Rm := Lib.hid (row_keep Rm.out hb)
  replace Rd := Lib.hid (row_keep Rd.out hb)
  replace Ru := Lib.hid (row_keep Ru.out hb)
  replace BW := Lib.hid (BW.out.trans (hb.mono BW.out.size))
  replace Rp := Lib.hid (row_keep Rp.out hb)
  replace Rq := Lib.hid (row_keep Rq.out hb)
  have Pp2 := Lib.hid hd
  clear hd hb
  obtain ⟨lRp0c23, zRp0c23⟩ := at_cell Rp.out 0 _ rfl
  replace Rm := Lib.hid (one_other Rm.out ⟨gp, 0, none⟩ (.slice ap2 l.length cp2) (by have h := NE.out; show gp ≠ w.heap.size; omega))
  replace Rd := Lib.hid (one_other Rd.out ⟨gp, 0, none⟩ (.slice ap2 l.length cp2) (by have h := NE.out; show gp ≠ w.heap.size + 1; omega))
  replace Ru := Lib.hid (one_other Ru.out ⟨gp, 0, none⟩ (.slice ap2 l.length cp2) (by have h := NE.out; show gp ≠ w.heap.size + 1 + 1; omega))
  replace BW := Lib.hid (BW.out.setCell (p := ⟨gp, 0, none⟩) (by have h := NE.out; show w.heap.size ≤ gp; omega) (.slice ap2 l.length cp2))
  replace Rq := Lib.hid (one_other Rq.out ⟨gp, 0, none⟩ (.slice ap2 l.length cp2) (NE.out.1))
  replace Pp2 := Lib.hid (Pp2.out.far Rp.out tneMU (.slice ap2 l.length cp2))
  replace Rp := Lib.hid (one_set Rp.out (.slice ap2 l.length cp2))
  obtain ⟨lRm0c24, zRm0c24⟩ := at_cell Rm.out 0 _ rfl
  clear zRm0c24
  go_wp2_with fail
  refine (refOffer_any _ l b z k HK.out i F G2 HF.out HG2.out HL.out _ (HV.out.below BW.out)).mono ?_
  rintro e w8 ⟨aq2, cq2, rfl, hd, hb⟩
  replace hd := hd.base BW.out.size
  clear lRp0c23 zRp0c23 lRm0c24
  replace Rm := Lib.hid (row_keep Rm.out hb)
  replace Rd := Lib.hid (row_keep Rd.out hb)
  replace Ru := Lib.hid (row_keep Ru.out hb)
  replace BW := Lib.hid (BW.out.trans (hb.mono BW.out.size))
  replace Rp := Lib.hid (row_keep Rp.out hb)
  replace Rq := Lib.hid (row_keep Rq.out hb)
  replace Pp2 := Lib.hid (Pp2.out.below hb)
  have Pq2 := Lib.hid hd
  clear hd hb
  obtain ⟨lRq0c25, zRq0c25⟩ := at_cell Rq.out 0 _ rfl
  replace Rm := Lib.hid (one_other Rm.out ⟨gq, 0, none⟩ (.slice aq2 l.length cq2) (by have h := NE.out; show gq ≠ w.heap.size; omega))
  replace Rd := Lib.hid (one_other Rd.out ⟨gq, 0, none⟩ (.slice aq2 l.length cq2) (by have h := NE.out; show gq ≠ w.heap.size + 1; omega))
  replace Ru := Lib.hid (one_other Ru.out ⟨gq, 0, none⟩ (.slice aq2 l.length cq2) (by have h := NE.out; show gq ≠ w.heap.size + 1 + 1; omega))
  replace BW := Lib.hid (BW.out.setCell (p := ⟨gq, 0, none⟩) (by have h := NE.out; show w.heap.size ≤ gq; omega) (.slice aq2 l.length cq2))
  replace Rp := Lib.hid (one_other Rp.out ⟨gq, 0, none⟩ (.slice aq2 l.length cq2) (NE.out.2.1))
  replace Pp2 := Lib.hid (Pp2.out.far Rq.out tneMU (.slice aq2 l.length cq2))
  replace Pq2 := Lib.hid (Pq2.out.far Rq.out tneMU (.slice aq2 l.length cq2))
  replace Rq := Lib.hid (one_set Rq.out (.slice aq2 l.length cq2))
  obtain ⟨lRp0c26, zRp0c26⟩ := at_cell Rp.out 0 _ rfl
  clear zRp0c26
  obtain ⟨lRq0c27, zRq0c27⟩ := at_cell Rq.out 0 _ rfl
  clear zRq0c27
  go_wp2_with fail
  refine (alike_any _ _ G2 _ (Pp2.out.arg HV.out BW.out) (Pq2.out.arg HV.out BW.out)).mono ?_
  rintro e w9 ⟨rfl, hb⟩
  clear lRq0c25 zRq0c25 lRp0c26 lRq0c27
  replace Rm := Lib.hid (row_keep Rm.out hb)
  replace Rd := Lib.hid (row_keep Rd.out hb)
  replace Ru := Lib.hid (row_keep Ru.out hb)
  replace BW := Lib.hid (BW.out.trans (hb.mono BW.out.size))
  replace Rp := Lib.hid (row_keep Rp.out hb)
  replace Rq := Lib.hid (row_keep Rq.out hb)
  replace Pp2 := Lib.hid (Pp2.out.below hb)
  replace Pq2 := Lib.hid (Pq2.out.below hb)
  clear hb
  clear Pp2 Pq2
  obtain ⟨lRm0c28, zRm0c28⟩ := at_cell Rm.out 0 _ rfl
  clear zRm0c28
  obtain ⟨lRu0c29, zRu0c29⟩ := at_cell Ru.out 0 _ rfl
  clear zRu0c29
  obtain ⟨lRu1c30, zRu1c30⟩ := at_cell Ru.out 1 _ rfl
  clear zRu1c30
  go_wp2_with fail
  refine (return_any _ l b z k HK.out u0 u1 HU0.out HU1.out F G3 HF.out HG3.out HL.out _ (HV.out.below BW.out)).mono ?_
  rintro e w10 ⟨ap3, cp3, rfl, hd, hb⟩
  replace hd := hd.base BW.out.size
  clear lRm0c28 lRu0c29 lRu1c30
  replace Rm := Lib.hid (row_keep Rm.out hb)
  replace Rd := Lib.hid (row_keep Rd.out hb)
  replace Ru := Lib.hid (row_keep Ru.out hb)
  replace BW := Lib.hid (BW.out.trans (hb.mono BW.out.size))
  replace Rp := Lib.hid (row_keep Rp.out hb)
  replace Rq := Lib.hid (row_keep Rq.out hb)
  have Pp3 := Lib.hid hd
  clear hd hb
  obtain ⟨lRp0c31, zRp0c31⟩ := at_cell Rp.out 0 _ rfl
  replace Rm := Lib.hid (one_other Rm.out ⟨gp, 0, none⟩ (.slice ap3 l.length cp3) (by have h := NE.out; show gp ≠ w.heap.size; omega))
  replace Rd := Lib.hid (one_other Rd.out ⟨gp, 0, none⟩ (.slice ap3 l.length cp3) (by have h := NE.out; show gp ≠ w.heap.size + 1; omega))
  replace Ru := Lib.hid (one_other Ru.out ⟨gp, 0, none⟩ (.slice ap3 l.length cp3) (by have h := NE.out; show gp ≠ w.heap.size + 1 + 1; omega))
  replace BW := Lib.hid (BW.out.setCell (p := ⟨gp, 0, none⟩) (by have h := NE.out; show w.heap.size ≤ gp; omega) (.slice ap3 l.length cp3))
  replace Rq := Lib.hid (one_other Rq.out ⟨gp, 0, none⟩ (.slice ap3 l.length cp3) (NE.out.1))
  replace Pp3 := Lib.hid (Pp3.out.far Rp.out tneMU (.slice ap3 l.length cp3))
  replace Rp := Lib.hid (one_set Rp.out (.slice ap3 l.length cp3))
  obtain ⟨lRm0c32, zRm0c32⟩ := at_cell Rm.out 0 _ rfl
  clear zRm0c32
  obtain ⟨lRu0c33, zRu0c33⟩ := at_cell Ru.out 0 _ rfl
  clear zRu0c33
  obtain ⟨lRu1c34, zRu1c34⟩ := at_cell Ru.out 1 _ rfl
  clear zRu1c34
  go_wp2_with fail
  refine (refReturn_any _ l b z k HK.out u0 u1 HU0.out HU1.out F G3 HF.out HG3.out HL.out _ (HV.out.below BW.out)).mono ?_
  rintro e w11 ⟨aq3, cq3, rfl, hd, hb⟩
  replace hd := hd.base BW.out.size
  clear lRp0c31 zRp0c31 lRm0c32 lRu0c33 lRu1c34
  replace Rm := Lib.hid (row_keep Rm.out hb)
  replace Rd := Lib.hid (row_keep Rd.out hb)
  replace Ru := Lib.hid (row_keep Ru.out hb)
  replace BW := Lib.hid (BW.out.trans (hb.mono BW.out.size))
  replace Rp := Lib.hid (row_keep Rp.out hb)
  replace Rq := Lib.hid (row_keep Rq.out hb)
  replace Pp3 := Lib.hid (Pp3.out.below hb)
  have Pq3 := Lib.hid hd
  clear hd hb
  obtain ⟨lRq0c35, zRq0c35⟩ := at_cell Rq.out 0 _ rfl
  replace Rm := Lib.hid (one_other Rm.out ⟨gq, 0, none⟩ (.slice aq3 l.length cq3) (by have h := NE.out; show gq ≠ w.heap.size; omega))
  replace Rd := Lib.hid (one_other Rd.out ⟨gq, 0, none⟩ (.slice aq3 l.length cq3) (by have h := NE.out; show gq ≠ w.heap.size + 1; omega))
  replace Ru := Lib.hid (one_other Ru.out ⟨gq, 0, none⟩ (.slice aq3 l.length cq3) (by have h := NE.out; show gq ≠ w.heap.size + 1 + 1; omega))
  replace BW := Lib.hid (BW.out.setCell (p := ⟨gq, 0, none⟩) (by have h := NE.out; show w.heap.size ≤ gq; omega) (.slice aq3 l.length cq3))
  replace Rp := Lib.hid (one_other Rp.out ⟨gq, 0, none⟩ (.slice aq3 l.length cq3) (NE.out.2.1))
  replace Pp3 := Lib.hid (Pp3.out.far Rq.out tneMU (.slice aq3 l.length cq3))
  replace Pq3 := Lib.hid (Pq3.out.far Rq.out tneMU (.slice aq3 l.length cq3))
  replace Rq := Lib.hid (one_set Rq.out (.slice aq3 l.length cq3))
  obtain ⟨lRp0c36, zRp0c36⟩ := at_cell Rp.out 0 _ rfl
  clear zRp0c36
  obtain ⟨lRq0c37, zRq0c37⟩ := at_cell Rq.out 0 _ rfl
  clear zRq0c37
  go_wp2_with fail
  refine (alike_any _ _ G3 _ (Pp3.out.arg HV.out BW.out) (Pq3.out.arg HV.out BW.out)).mono ?_
  rintro e w12 ⟨rfl, hb⟩
  clear lRq0c35 zRq0c35 lRp0c36 lRq0c37
  replace Rm := Lib.hid (row_keep Rm.out hb)
  replace Rd := Lib.hid (row_keep Rd.out hb)
  replace Ru := Lib.hid (row_keep Ru.out hb)
  replace BW := Lib.hid (BW.out.trans (hb.mono BW.out.size))
  replace Rp := Lib.hid (row_keep Rp.out hb)
  replace Rq := Lib.hid (row_keep Rq.out hb)
  replace Pp3 := Lib.hid (Pp3.out.below hb)
  replace Pq3 := Lib.hid (Pq3.out.below hb)
  clear hb
  clear Pp3 Pq3
  clear Rp Rq Rd
  obtain ⟨lRm0c38, zRm0c38⟩ := at_cell Rm.out 0 _ rfl
  clear zRm0c38
  go_wp2_with fail
  refine (avail_any _ l b z F ya HF.out HYA.out HMX.out _ (HV.out.below BW.out)).mono ?_
  rintro e w13 ⟨rfl, hb⟩
  clear lRm0c38
  replace Rm := Lib.hid (row_keep Rm.out hb)
  replace Ru := Lib.hid (row_keep Ru.out hb)
  replace BW := Lib.hid (BW.out.trans (hb.mono BW.out.size))
  clear hb
  obtain ⟨lRm0c39, zRm0c39⟩ := at_cell Rm.out 0 _ rfl
  clear zRm0c39
  go_wp2_with fail
  refine (refAvail_any _ l b z F ya HF.out HYA.out HL.out _ (HV.out.below BW.out)).mono ?_
  rintro e w14 ⟨rfl, hb⟩
  clear lRm0c39
  replace Rm := Lib.hid (row_keep Rm.out hb)
  replace Ru := Lib.hid (row_keep Ru.out hb)
  replace BW := Lib.hid (BW.out.trans (hb.mono BW.out.size))
  clear hb
  obtain ⟨lRm0c40, zRm0c40⟩ := at_cell Rm.out 0 _ rfl
  clear zRm0c40
  go_wp2_with fail
  refine (used_any _ l b z F yu HF.out HYU.out HMX.out _ (HV.out.below BW.out)).mono ?_
  rintro e w15 ⟨rfl, hb⟩
  clear lRm0c40
  replace Rm := Lib.hid (row_keep Rm.out hb)
  replace Ru := Lib.hid (row_keep Ru.out hb)
  replace BW := Lib.hid (BW.out.trans (hb.mono BW.out.size))
  clear hb
  obtain ⟨lRm0c41, zRm0c41⟩ := at_cell Rm.out 0 _ rfl
  clear zRm0c41
  go_wp2_with fail
  refine (refUsed_any _ l b z F yu HF.out HYU.out HL.out _ (HV.out.below BW.out)).mono ?_
  rintro e w16 ⟨rfl, hb⟩
  clear lRm0c41
  replace Rm := Lib.hid (row_keep Rm.out hb)
  replace Ru := Lib.hid (row_keep Ru.out hb)
  replace BW := Lib.hid (BW.out.trans (hb.mono BW.out.size))
  clear hb
  obtain ⟨lRm0c42, zRm0c42⟩ := at_cell Rm.out 0 _ rfl
  clear zRm0c42
  go_wp2_with fail
  refine (availAt_any _ l b z k HK.out F ye HF.out HYE.out HMX.out _ (HV.out.below BW.out)).mono ?_
  rintro e w17 ⟨rfl, hb⟩
  clear lRm0c42
  replace Rm := Lib.hid (row_keep Rm.out hb)
  replace Ru := Lib.hid (row_keep Ru.out hb)
  replace BW := Lib.hid (BW.out.trans (hb.mono BW.out.size))
  clear hb
  obtain ⟨lRm0c43, zRm0c43⟩ := at_cell Rm.out 0 _ rfl
  clear zRm0c43
  go_wp2_with fail
  refine (refAvailAt_any _ l b z k HK.out F ye HF.out HYE.out HL.out _ (HV.out.below BW.out)).mono ?_
  rintro e w18 ⟨rfl, hb⟩
  clear lRm0c43
  replace Rm := Lib.hid (row_keep Rm.out hb)
  replace Ru := Lib.hid (row_keep Ru.out hb)
  replace BW := Lib.hid (BW.out.trans (hb.mono BW.out.size))
  clear hb
  obtain ⟨lRm0c44, zRm0c44⟩ := at_cell Rm.out 0 _ rfl
  clear zRm0c44
  go_wp2_with fail
  refine (usedAt_any _ l b z k HK.out F e0 e1 HF.out HE0.out HE1.out HMX.out _ (HV.out.below BW.out)).mono ?_
  rintro e w19 ⟨rfl, hb⟩
  clear lRm0c44
  replace Rm := Lib.hid (row_keep Rm.out hb)
  replace Ru := Lib.hid (row_keep Ru.out hb)
  replace BW := Lib.hid (BW.out.trans (hb.mono BW.out.size))
  clear hb
  have hlow := (Array.getElem?_eq_some_iff.1 Ru.out).1
  have hbx : Below (w19).heap.size (w19) ((w19).alloc (.cells #[.int .u32 (e0 : Nat), .int .u32 (e1 : Nat)] 25)) := (Below.refl _ _).alloc (Nat.le_refl _) _
  replace Rm := Lib.hid (row_keep Rm.out hbx)
  replace Ru := Lib.hid (row_keep Ru.out hbx)
  replace BW := Lib.hid (BW.out.trans (hbx.mono BW.out.size))
  have Rv := Lib.hid (heap_alloc_new (w19) (.cells #[.int .u32 (e0 : Nat), .int .u32 (e1 : Nat)] 25))
  clear hbx
  obtain ⟨gv, hgv⟩ : ∃ x, x = (w19).heap.size := ⟨_, rfl⟩
  have Lgv := Lib.hid (show w.heap.size + 1 + 1 < gv from by rw [hgv]; exact hlow)
  clear hlow
  go_upto_region 28 with fail
  rw [← hgv] at Rv ⊢
  clear hgv Ru
  obtain ⟨wa, hwa⟩ : ∃ x, x = (w19).alloc (.cells #[.int .u32 (e0 : Nat), .int .u32 (e1 : Nat)] 25) := ⟨_, rfl⟩
  rw [← hwa] at Rm BW Rv ⊢
  clear hwa
  go_cut [30, 26] (fun s f wx => ∃ g : Nat, s = .pointer (some ⟨g, 0, none⟩) ∧ f = .int .i64 F ∧ wx.heap[g]? = some (.cells #[.int .u32 (e0 : Nat), .int .u32 (e1 : Nat)] 25) ∧ wx.heap[gv]? = some (.cells #[.int .u32 (e0 : Nat), .int .u32 (e1 : Nat)] 25) ∧ wx.heap[w.heap.size]? = some (.cells #[.slice va l.length vc] 28 (0, 0)) ∧ Below w.heap.size w wx)
  case first =>
    obtain ⟨lRm0c45, zRm0c45⟩ := at_cell Rm.out 0 _ rfl
    clear zRm0c45
    go_wp2_with fail
    refine (refUsedAt_any _ l b z k HK.out F e0 e1 HF.out HE0.out HE1.out HL.out _ (HV.out.below BW.out)).mono ?_
    rintro e w20 ⟨rfl, hb⟩
    clear lRm0c45
    replace Rm := Lib.hid (row_keep Rm.out hb)
    replace BW := Lib.hid (BW.out.trans (hb.mono BW.out.size))
    replace Rv := Lib.hid (row_keep Rv.out hb)
    clear hb
    have hbx : Below (w20).heap.size (w20) ((w20).alloc (.cells #[.int .u32 (e0 : Nat), .int .u32 (e1 : Nat)] 25)) := (Below.refl _ _).alloc (Nat.le_refl _) _
    replace Rm := Lib.hid (row_keep Rm.out hbx)
    replace BW := Lib.hid (BW.out.trans (hbx.mono BW.out.size))
    replace Rv := Lib.hid (row_keep Rv.out hbx)
    have Rw := Lib.hid (heap_alloc_new (w20) (.cells #[.int .u32 (e0 : Nat), .int .u32 (e1 : Nat)] 25))
    clear hbx
    go_wp2_with fail
    go_meet
    exact ⟨_, rfl, rfl, Rw.out, Rv.out, Rm.out, BW.out⟩
  case rest =>
  clear Rv Rm BW Lgv
  obtain ⟨g, rfl, rfl, h1, h2, h3, hbw⟩ := hcut
  obtain ⟨W0, hW0⟩ : ∃ W, W = wc := ⟨_, rfl⟩
  subst hW0
  have Rw := Lib.hid h1
  have Rv := Lib.hid h2
  have Rm := Lib.hid h3
  have BW := Lib.hid hbw
  have HSZ := Lib.hid (fun W => size_any z sz HS.out W)
  have HSR := Lib.hid (fun W => refSize_any z sz HS.out W)
  have HCK := Lib.hid (fun W => ringCheck_any va l.length vc HMX.out b z ck HC.out W)
  have HCR := Lib.hid (fun W => refRingCheck_any va l.length vc HMX.out b z ck HC.out W)
  clear h1 h2 h3 hbw
  go_wp2_with fail
  refine wp_region_rec (X := RingTellsX) (by kernel_rfl) (by kernel_rfl) (fun x => #[x.b0, x.b1, x.b2, x.b3, x.b4, x.b5, x.b6, x.b7, x.b8, x.b9, x.b10, x.b11, x.b12, x.b13, x.b14, x.b15, x.b16, x.b17, x.b18, x.b19, x.b20, x.b21, x.b22, x.b23, x.b24, x.b25, x.b26, x.b27, x.b28, x.b29, x.b30, x.b31, x.b32, x.b33, x.b34, x.b35, x.b36, x.b37, x.b38, x.b39]) (fun x => { tmps := List.toArray ((Value.agg #[Value.slice va l.length vc]) :: (Value.int IntKind.i64 b) :: (Value.int IntKind.i64 z) :: (Value.int IntKind.i64 i) :: (Value.agg #[Value.int IntKind.u64 ↑da, Value.int IntKind.u32 ↑dn, Value.int IntKind.u16 ↑df, Value.int IntKind.u16 ↑dx]) :: (Value.int IntKind.u16 ↑k) :: (Value.agg #[Value.int IntKind.u32 ↑u0, Value.int IntKind.u32 ↑u1]) :: (Value.pointer (some ⟨w.heap.size, 0, none⟩)) :: undef :: undef :: undef :: (Value.pointer (some ⟨w.heap.size + 1, 0, none⟩)) :: undef :: (Value.pointer (some ⟨w.heap.size + 1 + 1, 0, none⟩)) :: x.s14 :: (Value.pointer (some ⟨w2.heap.size, 0, none⟩)) :: (Value.int IntKind.i64 F) :: (Value.pointer (some ⟨w3.heap.size, 0, none⟩)) :: (Value.int IntKind.i64 F) :: (Value.pointer (some ⟨gp, 0, none⟩)) :: (Value.pointer (some ⟨gq, 0, none⟩)) :: (Value.int IntKind.u16 ↑ya) :: (Value.int IntKind.u16 ↑ya) :: (Value.int IntKind.u16 ↑yu) :: (Value.int IntKind.i64 F) :: (Value.int IntKind.u16 ↑yu) :: (Value.int IntKind.i64 F) :: (Value.int IntKind.i64 ↑ye) :: (Value.int IntKind.i64 ↑ye) :: (Value.pointer (some ⟨gv, 0, none⟩)) :: (Value.pointer (some ⟨g, 0, none⟩)) :: u31 :: u32 :: u33 :: u34 :: u35 :: u36 :: u37 :: u38 :: u39 :: u40 :: u41 :: u42 :: u43 :: u44 :: u45 :: u46 :: u47 :: u48 :: u49 :: u50 :: u51 :: u52 :: u53 :: u54 :: u55 :: u56 :: u57 :: u58 :: u59 :: u60 :: u61 :: u62 :: u63 :: u64 :: u65 :: u66 :: u67 :: u68 :: u69 :: u70 :: u71 :: u72 :: u73 :: u74 :: u75 :: u76 :: u77 :: u78 :: u79 :: u80 :: u81 :: u82 :: u83 :: u84 :: u85 :: u86 :: u87 :: u88 :: u89 :: u90 :: u91 :: u92 :: u93 :: u94 :: u95 :: u96 :: u97 :: u98 :: u99 :: u100 :: u101 :: u102 :: u103 :: u104 :: u105 :: u106 :: u107 :: u108 :: u109 :: u110 :: u111 :: u112 :: u113 :: u114 :: u115 :: u116 :: u117 :: u118 :: u119 :: u120 :: u121 :: u122 :: u123 :: u124 :: u125 :: u126 :: u127 :: u128 :: u129 :: u130 :: u131 :: u132 :: u133 :: u134 :: u135 :: u136 :: u137 :: u138 :: u139 :: u140 :: u141 :: u142 :: u143 :: u144 :: u145 :: u146 :: u147 :: u148 :: u149 :: u150 :: u151 :: u152 :: u153 :: u154 :: u155 :: u156 :: u157 :: u158 :: u159 :: u160 :: u161 :: u162 :: u163 :: u164 :: u165 :: u166 :: u167 :: u168 :: u169 :: u170 :: u171 :: u172 :: u173 :: u174 :: u175 :: u176 :: u177 :: u178 :: u179 :: u180 :: u181 :: u182 :: u183 :: u184 :: u185 :: u186 :: u187 :: u188 :: u189 :: u190 :: u191 :: u192 :: u193 :: u194 :: u195 :: u196 :: u197 :: u198 :: u199 :: u200 :: u201 :: u202 :: u203 :: u204 :: u205 :: u206 :: u207 :: u208 :: u209 :: u210 :: u211 :: u212 :: u213 :: u214 :: u215 :: u216 :: u217 :: x.s218 :: x.s219 :: x.s220 :: x.s221 :: x.s222 :: x.s223 :: x.s224 :: x.s225 :: x.s226 :: x.s227 :: x.s228 :: x.s229 :: x.s230 :: x.s231 :: x.s232 :: x.s233 :: x.s234 :: x.s235 :: x.s236 :: x.s237 :: x.s238 :: x.s239 :: x.s240 :: x.s241 :: x.s242 :: x.s243 :: x.s244 :: x.s245 :: x.s246 :: x.s247 :: x.s248 :: x.s249 :: x.s250 :: x.s251 :: x.s252 :: x.s253 :: x.s254 :: x.s255 :: x.s256 :: []), defers := [] }) (fun x W => (x.b0 = true → x.s218 = .int .i64 (ye : Nat)) ∧ (x.b1 = true → x.s219 = .int .i64 (ye : Nat)) ∧ (x.b2 = true → x.s220 = .bool true) ∧ (x.b3 = true → x.s221 = .bool true) ∧ (x.b4 = true → x.s222 = .int .i64 F) ∧ (x.b5 = true → x.s223 = .int .i64 F) ∧ (x.b6 = true → x.s224 = .bool true) ∧ (x.b7 = true → x.s225 = .bool true) ∧ (x.b8 = true → x.s226 = .bool true) ∧ (x.b9 = true → x.s227 = .agg #[.int .u32 (e0 : Nat), .int .u32 (e1 : Nat)]) ∧ (x.b10 = true → x.s228 = .agg #[.int .u32 (e0 : Nat), .int .u32 (e1 : Nat)]) ∧ (x.b11 = true → x.s229 = .bool true) ∧ (x.b12 = true → x.s230 = .bool true) ∧ (x.b13 = true → x.s231 = .bool true) ∧ (x.b14 = true → x.s232 = .int .i64 F) ∧ (x.b15 = true → x.s233 = .int .i64 F) ∧ (x.b16 = true → x.s234 = .bool true) ∧ (x.b17 = true → x.s235 = .bool true) ∧ (x.b18 = true → x.s236 = .bool true) ∧ (x.b19 = true → x.s237 = .int .i64 z) ∧ (x.b20 = true → x.s238 = .int .i64 sz) ∧ (x.b21 = true → x.s239 = .int .i64 z) ∧ (x.b22 = true → x.s240 = .int .i64 sz) ∧ (x.b23 = true → x.s241 = .bool true) ∧ (x.b24 = true → x.s242 = .bool true) ∧ (x.b25 = true → x.s243 = .bool true) ∧ (x.b26 = true → x.s244 = .agg #[.slice va l.length vc]) ∧ (x.b27 = true → x.s245 = .int .i64 b) ∧ (x.b28 = true → x.s246 = .int .i64 z) ∧ (x.b29 = true → x.s247 = .bool ck) ∧ (x.b30 = true → x.s248 = .agg #[.slice va l.length vc]) ∧ (x.b31 = true → x.s249 = .int .i64 b) ∧ (x.b32 = true → x.s250 = .int .i64 z) ∧ (x.b33 = true → x.s251 = .bool ck) ∧ (x.b34 = true → x.s252 = .bool true) ∧ (x.b35 = true → x.s253 = .bool true) ∧ (x.b36 = true → x.s254 = .bool true) ∧ (x.b37 = true → x.s255 = .bool true) ∧ (x.b38 = true → x.s256 = .bool true) ∧ (x.b39 = true → x.s14 = .bool true) ∧ (W.heap[w.heap.size]? = some (.cells #[.slice va l.length vc] 28 (0, 0))) ∧ (W.heap[gv]? = some (.cells #[.int .u32 (e0 : Nat), .int .u32 (e1 : Nat)] 25)) ∧ (W.heap[g]? = some (.cells #[.int .u32 (e0 : Nat), .int .u32 (e1 : Nat)] 25)) ∧ (Below w.heap.size w W)) ⟨false, false, false, false, false, false, false, false, false, false, false, false, false, false, false, false, false, false, false, false, false, false, false, false, false, false, false, false, false, false, false, false, false, false, false, false, false, false, false, false, u218, u219, u220, u221, u222, u223, u224, u225, u226, u227, u228, u229, u230, u231, u232, u233, u234, u235, u236, u237, u238, u239, u240, u241, u242, u243, u244, u245, u246, u247, u248, u249, u250, u251, u252, u253, u254, u255, u256, Value.bool false⟩ rfl rfl ⟨(fun h => by cases h), (fun h => by cases h), (fun h => by cases h), (fun h => by cases h), (fun h => by cases h), (fun h => by cases h), (fun h => by cases h), (fun h => by cases h), (fun h => by cases h), (fun h => by cases h), (fun h => by cases h), (fun h => by cases h), (fun h => by cases h), (fun h => by cases h), (fun h => by cases h), (fun h => by cases h), (fun h => by cases h), (fun h => by cases h), (fun h => by cases h), (fun h => by cases h), (fun h => by cases h), (fun h => by cases h), (fun h => by cases h), (fun h => by cases h), (fun h => by cases h), (fun h => by cases h), (fun h => by cases h), (fun h => by cases h), (fun h => by cases h), (fun h => by cases h), (fun h => by cases h), (fun h => by cases h), (fun h => by cases h), (fun h => by cases h), (fun h => by cases h), (fun h => by cases h), (fun h => by cases h), (fun h => by cases h), (fun h => by cases h), (fun h => by cases h), Rm.out, Rv.out, Rw.out, BW.out.drew⟩ (fun _ => rfl) ?hstep ?hdone
  case hstep =>
    rintro ⟨b0, b1, b2, b3, b4, b5, b6, b7, b8, b9, b10, b11, b12, b13, b14, b15, b16, b17, b18, b19, b20, b21, b22, b23, b24, b25, b26, b27, b28, b29, b30, b31, b32, b33, b34, b35, b36, b37, b38, b39, s218, s219, s220, s221, s222, s223, s224, s225, s226, s227, s228, s229, s230, s231, s232, s233, s234, s235, s236, s237, s238, s239, s240, s241, s242, s243, s244, s245, s246, s247, s248, s249, s250, s251, s252, s253, s254, s255, s256, s14⟩ W hI i hi
    dsimp only at hI hi ⊢
    have HI := Lib.hid hI
    clear hI
    rw [Region.ready, List.mem_filter, List.mem_range] at hi
    obtain ⟨hlt, hp⟩ := hi
    have hi7 : i = 0 ∨ i = 1 ∨ i = 2 ∨ i = 3 ∨ i = 4 ∨ i = 5 ∨ i = 6 ∨ i = 7 ∨ i = 8 ∨ i = 9 ∨ i = 10 ∨ i = 11 ∨ i = 12 ∨ i = 13 ∨ i = 14 ∨ i = 15 ∨ i = 16 ∨ i = 17 ∨ i = 18 ∨ i = 19 ∨ i = 20 ∨ i = 21 ∨ i = 22 ∨ i = 23 ∨ i = 24 ∨ i = 25 ∨ i = 26 ∨ i = 27 ∨ i = 28 ∨ i = 29 ∨ i = 30 ∨ i = 31 ∨ i = 32 ∨ i = 33 ∨ i = 34 ∨ i = 35 ∨ i = 36 ∨ i = 37 ∨ i = 38 ∨ i = 39 := by simp at hlt; omega
    clear hlt
    rcases hi7 with rfl | rfl | rfl | rfl | rfl | rfl | rfl | rfl | rfl | rfl | rfl | rfl | rfl | rfl | rfl | rfl | rfl | rfl | rfl | rfl | rfl | rfl | rfl | rfl | rfl | rfl | rfl | rfl | rfl | rfl | rfl | rfl | rfl | rfl | rfl | rfl | rfl | rfl | rfl | rfl
    all_goals simp [Region.binds] at hp
    · have hn0 : b0 = false := by revert hp; cases b0 <;> simp
      clear hp
      subst hn0
      refine inv_op (o := ⟨some 218, _, _, _, _, _⟩) rfl (fun K' hK' => ?_)
      go_simp
      obtain ⟨h0, h1, h2, h3, h4, h5, h6, h7, h8, h9, h10, h11, h12, h13, h14, h15, h16, h17, h18, h19, h20, h21, h22, h23, h24, h25, h26, h27, h28, h29, h30, h31, h32, h33, h34, h35, h36, h37, h38, h39, gM, gV, gX, gO⟩ := HI.out
      exact hK'.out _ _ ⟨⟨true, b1, b2, b3, b4, b5, b6, b7, b8, b9, b10, b11, b12, b13, b14, b15, b16, b17, b18, b19, b20, b21, b22, b23, b24, b25, b26, b27, b28, b29, b30, b31, b32, b33, b34, b35, b36, b37, b38, b39, _, s219, s220, s221, s222, s223, s224, s225, s226, s227, s228, s229, s230, s231, s232, s233, s234, s235, s236, s237, s238, s239, s240, s241, s242, s243, s244, s245, s246, s247, s248, s249, s250, s251, s252, s253, s254, s255, s256, s14⟩, rfl, rfl, (fun _ => rfl), h1, h2, h3, h4, h5, h6, h7, h8, h9, h10, h11, h12, h13, h14, h15, h16, h17, h18, h19, h20, h21, h22, h23, h24, h25, h26, h27, h28, h29, h30, h31, h32, h33, h34, h35, h36, h37, h38, h39, gM, gV, gX, gO⟩
    · have hn1 : b1 = false := by revert hp; cases b1 <;> simp
      clear hp
      subst hn1
      refine inv_op (o := ⟨some 219, _, _, _, _, _⟩) rfl (fun K' hK' => ?_)
      go_simp
      obtain ⟨h0, h1, h2, h3, h4, h5, h6, h7, h8, h9, h10, h11, h12, h13, h14, h15, h16, h17, h18, h19, h20, h21, h22, h23, h24, h25, h26, h27, h28, h29, h30, h31, h32, h33, h34, h35, h36, h37, h38, h39, gM, gV, gX, gO⟩ := HI.out
      exact hK'.out _ _ ⟨⟨b0, true, b2, b3, b4, b5, b6, b7, b8, b9, b10, b11, b12, b13, b14, b15, b16, b17, b18, b19, b20, b21, b22, b23, b24, b25, b26, b27, b28, b29, b30, b31, b32, b33, b34, b35, b36, b37, b38, b39, s218, _, s220, s221, s222, s223, s224, s225, s226, s227, s228, s229, s230, s231, s232, s233, s234, s235, s236, s237, s238, s239, s240, s241, s242, s243, s244, s245, s246, s247, s248, s249, s250, s251, s252, s253, s254, s255, s256, s14⟩, rfl, rfl, h0, (fun _ => rfl), h2, h3, h4, h5, h6, h7, h8, h9, h10, h11, h12, h13, h14, h15, h16, h17, h18, h19, h20, h21, h22, h23, h24, h25, h26, h27, h28, h29, h30, h31, h32, h33, h34, h35, h36, h37, h38, h39, gM, gV, gX, gO⟩
    · have hn2 : b2 = false := by revert hp; cases b2 <;> simp
      have e0 : b0 = true := by revert hp; cases b0 <;> simp
      have e1 : b1 = true := by revert hp; cases b1 <;> simp
      clear hp
      obtain rfl := (HI.out.1) e0
      obtain rfl := (HI.out.2.1) e1
      subst hn2
      refine inv_op (o := ⟨some 220, _, _, _, _, _⟩) rfl (fun K' hK' => ?_)
      go_simp
      obtain ⟨h0, h1, h2, h3, h4, h5, h6, h7, h8, h9, h10, h11, h12, h13, h14, h15, h16, h17, h18, h19, h20, h21, h22, h23, h24, h25, h26, h27, h28, h29, h30, h31, h32, h33, h34, h35, h36, h37, h38, h39, gM, gV, gX, gO⟩ := HI.out
      exact hK'.out _ _ ⟨⟨b0, b1, true, b3, b4, b5, b6, b7, b8, b9, b10, b11, b12, b13, b14, b15, b16, b17, b18, b19, b20, b21, b22, b23, b24, b25, b26, b27, b28, b29, b30, b31, b32, b33, b34, b35, b36, b37, b38, b39, _, _, _, s221, s222, s223, s224, s225, s226, s227, s228, s229, s230, s231, s232, s233, s234, s235, s236, s237, s238, s239, s240, s241, s242, s243, s244, s245, s246, s247, s248, s249, s250, s251, s252, s253, s254, s255, s256, s14⟩, rfl, rfl, h0, h1, (fun _ => rfl), h3, h4, h5, h6, h7, h8, h9, h10, h11, h12, h13, h14, h15, h16, h17, h18, h19, h20, h21, h22, h23, h24, h25, h26, h27, h28, h29, h30, h31, h32, h33, h34, h35, h36, h37, h38, h39, gM, gV, gX, gO⟩
    · have hn3 : b3 = false := by revert hp; cases b3 <;> simp
      have e2 : b2 = true := by revert hp; cases b2 <;> simp
      clear hp
      obtain rfl := (HI.out.2.2.1) e2
      subst hn3
      refine inv_op (o := ⟨some 221, _, _, _, _, _⟩) rfl (fun K' hK' => ?_)
      go_simp
      obtain ⟨h0, h1, h2, h3, h4, h5, h6, h7, h8, h9, h10, h11, h12, h13, h14, h15, h16, h17, h18, h19, h20, h21, h22, h23, h24, h25, h26, h27, h28, h29, h30, h31, h32, h33, h34, h35, h36, h37, h38, h39, gM, gV, gX, gO⟩ := HI.out
      exact hK'.out _ _ ⟨⟨b0, b1, b2, true, b4, b5, b6, b7, b8, b9, b10, b11, b12, b13, b14, b15, b16, b17, b18, b19, b20, b21, b22, b23, b24, b25, b26, b27, b28, b29, b30, b31, b32, b33, b34, b35, b36, b37, b38, b39, s218, s219, _, _, s222, s223, s224, s225, s226, s227, s228, s229, s230, s231, s232, s233, s234, s235, s236, s237, s238, s239, s240, s241, s242, s243, s244, s245, s246, s247, s248, s249, s250, s251, s252, s253, s254, s255, s256, s14⟩, rfl, rfl, h0, h1, h2, (fun _ => rfl), h4, h5, h6, h7, h8, h9, h10, h11, h12, h13, h14, h15, h16, h17, h18, h19, h20, h21, h22, h23, h24, h25, h26, h27, h28, h29, h30, h31, h32, h33, h34, h35, h36, h37, h38, h39, gM, gV, gX, gO⟩
    · have hn4 : b4 = false := by revert hp; cases b4 <;> simp
      have e3 : b3 = true := by revert hp; cases b3 <;> simp
      clear hp
      obtain rfl := (HI.out.2.2.2.1) e3
      subst hn4
      refine inv_op (o := ⟨some 222, _, _, _, _, _⟩) rfl (fun K' hK' => ?_)
      go_simp
      obtain ⟨h0, h1, h2, h3, h4, h5, h6, h7, h8, h9, h10, h11, h12, h13, h14, h15, h16, h17, h18, h19, h20, h21, h22, h23, h24, h25, h26, h27, h28, h29, h30, h31, h32, h33, h34, h35, h36, h37, h38, h39, gM, gV, gX, gO⟩ := HI.out
      exact hK'.out _ _ ⟨⟨b0, b1, b2, b3, true, b5, b6, b7, b8, b9, b10, b11, b12, b13, b14, b15, b16, b17, b18, b19, b20, b21, b22, b23, b24, b25, b26, b27, b28, b29, b30, b31, b32, b33, b34, b35, b36, b37, b38, b39, s218, s219, s220, _, _, s223, s224, s225, s226, s227, s228, s229, s230, s231, s232, s233, s234, s235, s236, s237, s238, s239, s240, s241, s242, s243, s244, s245, s246, s247, s248, s249, s250, s251, s252, s253, s254, s255, s256, s14⟩, rfl, rfl, h0, h1, h2, h3, (fun _ => rfl), h5, h6, h7, h8, h9, h10, h11, h12, h13, h14, h15, h16, h17, h18, h19, h20, h21, h22, h23, h24, h25, h26, h27, h28, h29, h30, h31, h32, h33, h34, h35, h36, h37, h38, h39, gM, gV, gX, gO⟩
    · have hn5 : b5 = false := by revert hp; cases b5 <;> simp
      have e3 : b3 = true := by revert hp; cases b3 <;> simp
      clear hp
      obtain rfl := (HI.out.2.2.2.1) e3
      subst hn5
      refine inv_op (o := ⟨some 223, _, _, _, _, _⟩) rfl (fun K' hK' => ?_)
      go_simp
      obtain ⟨h0, h1, h2, h3, h4, h5, h6, h7, h8, h9, h10, h11, h12, h13, h14, h15, h16, h17, h18, h19, h20, h21, h22, h23, h24, h25, h26, h27, h28, h29, h30, h31, h32, h33, h34, h35, h36, h37, h38, h39, gM, gV, gX, gO⟩ := HI.out
      exact hK'.out _ _ ⟨⟨b0, b1, b2, b3, b4, true, b6, b7, b8, b9, b10, b11, b12, b13, b14, b15, b16, b17, b18, b19, b20, b21, b22, b23, b24, b25, b26, b27, b28, b29, b30, b31, b32, b33, b34, b35, b36, b37, b38, b39, s218, s219, s220, _, s222, _, s224, s225, s226, s227, s228, s229, s230, s231, s232, s233, s234, s235, s236, s237, s238, s239, s240, s241, s242, s243, s244, s245, s246, s247, s248, s249, s250, s251, s252, s253, s254, s255, s256, s14⟩, rfl, rfl, h0, h1, h2, h3, h4, (fun _ => rfl), h6, h7, h8, h9, h10, h11, h12, h13, h14, h15, h16, h17, h18, h19, h20, h21, h22, h23, h24, h25, h26, h27, h28, h29, h30, h31, h32, h33, h34, h35, h36, h37, h38, h39, gM, gV, gX, gO⟩
    · have hn6 : b6 = false := by revert hp; cases b6 <;> simp
      have e4 : b4 = true := by revert hp; cases b4 <;> simp
      have e5 : b5 = true := by revert hp; cases b5 <;> simp
      have e3 : b3 = true := by revert hp; cases b3 <;> simp
      clear hp
      obtain rfl := (HI.out.2.2.2.2.1) e4
      obtain rfl := (HI.out.2.2.2.2.2.1) e5
      obtain rfl := (HI.out.2.2.2.1) e3
      subst hn6
      refine inv_op (o := ⟨some 224, _, _, _, _, _⟩) rfl (fun K' hK' => ?_)
      go_simp
      obtain ⟨h0, h1, h2, h3, h4, h5, h6, h7, h8, h9, h10, h11, h12, h13, h14, h15, h16, h17, h18, h19, h20, h21, h22, h23, h24, h25, h26, h27, h28, h29, h30, h31, h32, h33, h34, h35, h36, h37, h38, h39, gM, gV, gX, gO⟩ := HI.out
      exact hK'.out _ _ ⟨⟨b0, b1, b2, b3, b4, b5, true, b7, b8, b9, b10, b11, b12, b13, b14, b15, b16, b17, b18, b19, b20, b21, b22, b23, b24, b25, b26, b27, b28, b29, b30, b31, b32, b33, b34, b35, b36, b37, b38, b39, s218, s219, s220, _, _, _, _, s225, s226, s227, s228, s229, s230, s231, s232, s233, s234, s235, s236, s237, s238, s239, s240, s241, s242, s243, s244, s245, s246, s247, s248, s249, s250, s251, s252, s253, s254, s255, s256, s14⟩, rfl, rfl, h0, h1, h2, h3, h4, h5, (fun _ => rfl), h7, h8, h9, h10, h11, h12, h13, h14, h15, h16, h17, h18, h19, h20, h21, h22, h23, h24, h25, h26, h27, h28, h29, h30, h31, h32, h33, h34, h35, h36, h37, h38, h39, gM, gV, gX, gO⟩
    · have hn7 : b7 = false := by revert hp; cases b7 <;> simp
      have e3 : b3 = true := by revert hp; cases b3 <;> simp
      have e6 : b6 = true := by revert hp; cases b6 <;> simp
      clear hp
      obtain rfl := (HI.out.2.2.2.1) e3
      obtain rfl := (HI.out.2.2.2.2.2.2.1) e6
      subst hn7
      refine inv_op (o := ⟨some 225, _, _, _, _, _⟩) rfl (fun K' hK' => ?_)
      go_simp
      obtain ⟨h0, h1, h2, h3, h4, h5, h6, h7, h8, h9, h10, h11, h12, h13, h14, h15, h16, h17, h18, h19, h20, h21, h22, h23, h24, h25, h26, h27, h28, h29, h30, h31, h32, h33, h34, h35, h36, h37, h38, h39, gM, gV, gX, gO⟩ := HI.out
      exact hK'.out _ _ ⟨⟨b0, b1, b2, b3, b4, b5, b6, true, b8, b9, b10, b11, b12, b13, b14, b15, b16, b17, b18, b19, b20, b21, b22, b23, b24, b25, b26, b27, b28, b29, b30, b31, b32, b33, b34, b35, b36, b37, b38, b39, s218, s219, s220, _, s222, s223, _, _, s226, s227, s228, s229, s230, s231, s232, s233, s234, s235, s236, s237, s238, s239, s240, s241, s242, s243, s244, s245, s246, s247, s248, s249, s250, s251, s252, s253, s254, s255, s256, s14⟩, rfl, rfl, h0, h1, h2, h3, h4, h5, h6, (fun _ => rfl), h8, h9, h10, h11, h12, h13, h14, h15, h16, h17, h18, h19, h20, h21, h22, h23, h24, h25, h26, h27, h28, h29, h30, h31, h32, h33, h34, h35, h36, h37, h38, h39, gM, gV, gX, gO⟩
    · have hn8 : b8 = false := by revert hp; cases b8 <;> simp
      have e7 : b7 = true := by revert hp; cases b7 <;> simp
      clear hp
      obtain rfl := (HI.out.2.2.2.2.2.2.2.1) e7
      subst hn8
      refine inv_op (o := ⟨some 226, _, _, _, _, _⟩) rfl (fun K' hK' => ?_)
      go_simp
      obtain ⟨h0, h1, h2, h3, h4, h5, h6, h7, h8, h9, h10, h11, h12, h13, h14, h15, h16, h17, h18, h19, h20, h21, h22, h23, h24, h25, h26, h27, h28, h29, h30, h31, h32, h33, h34, h35, h36, h37, h38, h39, gM, gV, gX, gO⟩ := HI.out
      exact hK'.out _ _ ⟨⟨b0, b1, b2, b3, b4, b5, b6, b7, true, b9, b10, b11, b12, b13, b14, b15, b16, b17, b18, b19, b20, b21, b22, b23, b24, b25, b26, b27, b28, b29, b30, b31, b32, b33, b34, b35, b36, b37, b38, b39, s218, s219, s220, s221, s222, s223, s224, _, _, s227, s228, s229, s230, s231, s232, s233, s234, s235, s236, s237, s238, s239, s240, s241, s242, s243, s244, s245, s246, s247, s248, s249, s250, s251, s252, s253, s254, s255, s256, s14⟩, rfl, rfl, h0, h1, h2, h3, h4, h5, h6, h7, (fun _ => rfl), h9, h10, h11, h12, h13, h14, h15, h16, h17, h18, h19, h20, h21, h22, h23, h24, h25, h26, h27, h28, h29, h30, h31, h32, h33, h34, h35, h36, h37, h38, h39, gM, gV, gX, gO⟩
    · have hn9 : b9 = false := by revert hp; cases b9 <;> simp
      have e8 : b8 = true := by revert hp; cases b8 <;> simp
      clear hp
      obtain rfl := (HI.out.2.2.2.2.2.2.2.2.1) e8
      subst hn9
      refine inv_op (o := ⟨some 227, _, _, _, _, _⟩) rfl (fun K' hK' => ?_)
      have gV := HI.out.2.2.2.2.2.2.2.2.2.2.2.2.2.2.2.2.2.2.2.2.2.2.2.2.2.2.2.2.2.2.2.2.2.2.2.2.2.2.2.2.2.1
      obtain ⟨c0, c1, _, _⟩ := cells_two gV
      go_simp
      obtain ⟨h0, h1, h2, h3, h4, h5, h6, h7, h8, h9, h10, h11, h12, h13, h14, h15, h16, h17, h18, h19, h20, h21, h22, h23, h24, h25, h26, h27, h28, h29, h30, h31, h32, h33, h34, h35, h36, h37, h38, h39, gM, gV, gX, gO⟩ := HI.out
      exact hK'.out _ _ ⟨⟨b0, b1, b2, b3, b4, b5, b6, b7, b8, true, b10, b11, b12, b13, b14, b15, b16, b17, b18, b19, b20, b21, b22, b23, b24, b25, b26, b27, b28, b29, b30, b31, b32, b33, b34, b35, b36, b37, b38, b39, s218, s219, s220, s221, s222, s223, s224, s225, _, _, s228, s229, s230, s231, s232, s233, s234, s235, s236, s237, s238, s239, s240, s241, s242, s243, s244, s245, s246, s247, s248, s249, s250, s251, s252, s253, s254, s255, s256, s14⟩, rfl, rfl, h0, h1, h2, h3, h4, h5, h6, h7, h8, (fun _ => rfl), h10, h11, h12, h13, h14, h15, h16, h17, h18, h19, h20, h21, h22, h23, h24, h25, h26, h27, h28, h29, h30, h31, h32, h33, h34, h35, h36, h37, h38, h39, gM, gV, gX, gO⟩
    · have hn10 : b10 = false := by revert hp; cases b10 <;> simp
      have e8 : b8 = true := by revert hp; cases b8 <;> simp
      clear hp
      obtain rfl := (HI.out.2.2.2.2.2.2.2.2.1) e8
      subst hn10
      refine inv_op (o := ⟨some 228, _, _, _, _, _⟩) rfl (fun K' hK' => ?_)
      have gX := HI.out.2.2.2.2.2.2.2.2.2.2.2.2.2.2.2.2.2.2.2.2.2.2.2.2.2.2.2.2.2.2.2.2.2.2.2.2.2.2.2.2.2.2.1
      obtain ⟨c0, c1, _, _⟩ := cells_two gX
      go_simp
      obtain ⟨h0, h1, h2, h3, h4, h5, h6, h7, h8, h9, h10, h11, h12, h13, h14, h15, h16, h17, h18, h19, h20, h21, h22, h23, h24, h25, h26, h27, h28, h29, h30, h31, h32, h33, h34, h35, h36, h37, h38, h39, gM, gV, gX, gO⟩ := HI.out
      exact hK'.out _ _ ⟨⟨b0, b1, b2, b3, b4, b5, b6, b7, b8, b9, true, b11, b12, b13, b14, b15, b16, b17, b18, b19, b20, b21, b22, b23, b24, b25, b26, b27, b28, b29, b30, b31, b32, b33, b34, b35, b36, b37, b38, b39, s218, s219, s220, s221, s222, s223, s224, s225, _, s227, _, s229, s230, s231, s232, s233, s234, s235, s236, s237, s238, s239, s240, s241, s242, s243, s244, s245, s246, s247, s248, s249, s250, s251, s252, s253, s254, s255, s256, s14⟩, rfl, rfl, h0, h1, h2, h3, h4, h5, h6, h7, h8, h9, (fun _ => rfl), h11, h12, h13, h14, h15, h16, h17, h18, h19, h20, h21, h22, h23, h24, h25, h26, h27, h28, h29, h30, h31, h32, h33, h34, h35, h36, h37, h38, h39, gM, gV, gX, gO⟩
    · have hn11 : b11 = false := by revert hp; cases b11 <;> simp
      have e9 : b9 = true := by revert hp; cases b9 <;> simp
      have e10 : b10 = true := by revert hp; cases b10 <;> simp
      have e8 : b8 = true := by revert hp; cases b8 <;> simp
      clear hp
      obtain rfl := (HI.out.2.2.2.2.2.2.2.2.2.1) e9
      obtain rfl := (HI.out.2.2.2.2.2.2.2.2.2.2.1) e10
      obtain rfl := (HI.out.2.2.2.2.2.2.2.2.1) e8
      subst hn11
      refine inv_op (o := ⟨some 229, _, _, _, _, _⟩) rfl (fun K' hK' => ?_)
      have hq := used_eql e0 e1 e0 e1 true (by simp)
      go_simp
      obtain ⟨h0, h1, h2, h3, h4, h5, h6, h7, h8, h9, h10, h11, h12, h13, h14, h15, h16, h17, h18, h19, h20, h21, h22, h23, h24, h25, h26, h27, h28, h29, h30, h31, h32, h33, h34, h35, h36, h37, h38, h39, gM, gV, gX, gO⟩ := HI.out
      exact hK'.out _ _ ⟨⟨b0, b1, b2, b3, b4, b5, b6, b7, b8, b9, b10, true, b12, b13, b14, b15, b16, b17, b18, b19, b20, b21, b22, b23, b24, b25, b26, b27, b28, b29, b30, b31, b32, b33, b34, b35, b36, b37, b38, b39, s218, s219, s220, s221, s222, s223, s224, s225, _, _, _, _, s230, s231, s232, s233, s234, s235, s236, s237, s238, s239, s240, s241, s242, s243, s244, s245, s246, s247, s248, s249, s250, s251, s252, s253, s254, s255, s256, s14⟩, rfl, rfl, h0, h1, h2, h3, h4, h5, h6, h7, h8, h9, h10, (fun _ => rfl), h12, h13, h14, h15, h16, h17, h18, h19, h20, h21, h22, h23, h24, h25, h26, h27, h28, h29, h30, h31, h32, h33, h34, h35, h36, h37, h38, h39, gM, gV, gX, gO⟩
    · have hn12 : b12 = false := by revert hp; cases b12 <;> simp
      have e8 : b8 = true := by revert hp; cases b8 <;> simp
      have e11 : b11 = true := by revert hp; cases b11 <;> simp
      clear hp
      obtain rfl := (HI.out.2.2.2.2.2.2.2.2.1) e8
      obtain rfl := (HI.out.2.2.2.2.2.2.2.2.2.2.2.1) e11
      subst hn12
      refine inv_op (o := ⟨some 230, _, _, _, _, _⟩) rfl (fun K' hK' => ?_)
      go_simp
      obtain ⟨h0, h1, h2, h3, h4, h5, h6, h7, h8, h9, h10, h11, h12, h13, h14, h15, h16, h17, h18, h19, h20, h21, h22, h23, h24, h25, h26, h27, h28, h29, h30, h31, h32, h33, h34, h35, h36, h37, h38, h39, gM, gV, gX, gO⟩ := HI.out
      exact hK'.out _ _ ⟨⟨b0, b1, b2, b3, b4, b5, b6, b7, b8, b9, b10, b11, true, b13, b14, b15, b16, b17, b18, b19, b20, b21, b22, b23, b24, b25, b26, b27, b28, b29, b30, b31, b32, b33, b34, b35, b36, b37, b38, b39, s218, s219, s220, s221, s222, s223, s224, s225, _, s227, s228, _, _, s231, s232, s233, s234, s235, s236, s237, s238, s239, s240, s241, s242, s243, s244, s245, s246, s247, s248, s249, s250, s251, s252, s253, s254, s255, s256, s14⟩, rfl, rfl, h0, h1, h2, h3, h4, h5, h6, h7, h8, h9, h10, h11, (fun _ => rfl), h13, h14, h15, h16, h17, h18, h19, h20, h21, h22, h23, h24, h25, h26, h27, h28, h29, h30, h31, h32, h33, h34, h35, h36, h37, h38, h39, gM, gV, gX, gO⟩
    · have hn13 : b13 = false := by revert hp; cases b13 <;> simp
      have e12 : b12 = true := by revert hp; cases b12 <;> simp
      clear hp
      obtain rfl := (HI.out.2.2.2.2.2.2.2.2.2.2.2.2.1) e12
      subst hn13
      refine inv_op (o := ⟨some 231, _, _, _, _, _⟩) rfl (fun K' hK' => ?_)
      go_simp
      obtain ⟨h0, h1, h2, h3, h4, h5, h6, h7, h8, h9, h10, h11, h12, h13, h14, h15, h16, h17, h18, h19, h20, h21, h22, h23, h24, h25, h26, h27, h28, h29, h30, h31, h32, h33, h34, h35, h36, h37, h38, h39, gM, gV, gX, gO⟩ := HI.out
      exact hK'.out _ _ ⟨⟨b0, b1, b2, b3, b4, b5, b6, b7, b8, b9, b10, b11, b12, true, b14, b15, b16, b17, b18, b19, b20, b21, b22, b23, b24, b25, b26, b27, b28, b29, b30, b31, b32, b33, b34, b35, b36, b37, b38, b39, s218, s219, s220, s221, s222, s223, s224, s225, s226, s227, s228, s229, _, _, s232, s233, s234, s235, s236, s237, s238, s239, s240, s241, s242, s243, s244, s245, s246, s247, s248, s249, s250, s251, s252, s253, s254, s255, s256, s14⟩, rfl, rfl, h0, h1, h2, h3, h4, h5, h6, h7, h8, h9, h10, h11, h12, (fun _ => rfl), h14, h15, h16, h17, h18, h19, h20, h21, h22, h23, h24, h25, h26, h27, h28, h29, h30, h31, h32, h33, h34, h35, h36, h37, h38, h39, gM, gV, gX, gO⟩
    · have hn14 : b14 = false := by revert hp; cases b14 <;> simp
      have e13 : b13 = true := by revert hp; cases b13 <;> simp
      clear hp
      obtain rfl := (HI.out.2.2.2.2.2.2.2.2.2.2.2.2.2.1) e13
      subst hn14
      refine inv_op (o := ⟨some 232, _, _, _, _, _⟩) rfl (fun K' hK' => ?_)
      go_simp
      obtain ⟨h0, h1, h2, h3, h4, h5, h6, h7, h8, h9, h10, h11, h12, h13, h14, h15, h16, h17, h18, h19, h20, h21, h22, h23, h24, h25, h26, h27, h28, h29, h30, h31, h32, h33, h34, h35, h36, h37, h38, h39, gM, gV, gX, gO⟩ := HI.out
      exact hK'.out _ _ ⟨⟨b0, b1, b2, b3, b4, b5, b6, b7, b8, b9, b10, b11, b12, b13, true, b15, b16, b17, b18, b19, b20, b21, b22, b23, b24, b25, b26, b27, b28, b29, b30, b31, b32, b33, b34, b35, b36, b37, b38, b39, s218, s219, s220, s221, s222, s223, s224, s225, s226, s227, s228, s229, s230, _, _, s233, s234, s235, s236, s237, s238, s239, s240, s241, s242, s243, s244, s245, s246, s247, s248, s249, s250, s251, s252, s253, s254, s255, s256, s14⟩, rfl, rfl, h0, h1, h2, h3, h4, h5, h6, h7, h8, h9, h10, h11, h12, h13, (fun _ => rfl), h15, h16, h17, h18, h19, h20, h21, h22, h23, h24, h25, h26, h27, h28, h29, h30, h31, h32, h33, h34, h35, h36, h37, h38, h39, gM, gV, gX, gO⟩
    · have hn15 : b15 = false := by revert hp; cases b15 <;> simp
      have e13 : b13 = true := by revert hp; cases b13 <;> simp
      clear hp
      obtain rfl := (HI.out.2.2.2.2.2.2.2.2.2.2.2.2.2.1) e13
      subst hn15
      refine inv_op (o := ⟨some 233, _, _, _, _, _⟩) rfl (fun K' hK' => ?_)
      go_simp
      obtain ⟨h0, h1, h2, h3, h4, h5, h6, h7, h8, h9, h10, h11, h12, h13, h14, h15, h16, h17, h18, h19, h20, h21, h22, h23, h24, h25, h26, h27, h28, h29, h30, h31, h32, h33, h34, h35, h36, h37, h38, h39, gM, gV, gX, gO⟩ := HI.out
      exact hK'.out _ _ ⟨⟨b0, b1, b2, b3, b4, b5, b6, b7, b8, b9, b10, b11, b12, b13, b14, true, b16, b17, b18, b19, b20, b21, b22, b23, b24, b25, b26, b27, b28, b29, b30, b31, b32, b33, b34, b35, b36, b37, b38, b39, s218, s219, s220, s221, s222, s223, s224, s225, s226, s227, s228, s229, s230, _, s232, _, s234, s235, s236, s237, s238, s239, s240, s241, s242, s243, s244, s245, s246, s247, s248, s249, s250, s251, s252, s253, s254, s255, s256, s14⟩, rfl, rfl, h0, h1, h2, h3, h4, h5, h6, h7, h8, h9, h10, h11, h12, h13, h14, (fun _ => rfl), h16, h17, h18, h19, h20, h21, h22, h23, h24, h25, h26, h27, h28, h29, h30, h31, h32, h33, h34, h35, h36, h37, h38, h39, gM, gV, gX, gO⟩
    · have hn16 : b16 = false := by revert hp; cases b16 <;> simp
      have e14 : b14 = true := by revert hp; cases b14 <;> simp
      have e15 : b15 = true := by revert hp; cases b15 <;> simp
      have e13 : b13 = true := by revert hp; cases b13 <;> simp
      clear hp
      obtain rfl := (HI.out.2.2.2.2.2.2.2.2.2.2.2.2.2.2.1) e14
      obtain rfl := (HI.out.2.2.2.2.2.2.2.2.2.2.2.2.2.2.2.1) e15
      obtain rfl := (HI.out.2.2.2.2.2.2.2.2.2.2.2.2.2.1) e13
      subst hn16
      refine inv_op (o := ⟨some 234, _, _, _, _, _⟩) rfl (fun K' hK' => ?_)
      go_simp
      obtain ⟨h0, h1, h2, h3, h4, h5, h6, h7, h8, h9, h10, h11, h12, h13, h14, h15, h16, h17, h18, h19, h20, h21, h22, h23, h24, h25, h26, h27, h28, h29, h30, h31, h32, h33, h34, h35, h36, h37, h38, h39, gM, gV, gX, gO⟩ := HI.out
      exact hK'.out _ _ ⟨⟨b0, b1, b2, b3, b4, b5, b6, b7, b8, b9, b10, b11, b12, b13, b14, b15, true, b17, b18, b19, b20, b21, b22, b23, b24, b25, b26, b27, b28, b29, b30, b31, b32, b33, b34, b35, b36, b37, b38, b39, s218, s219, s220, s221, s222, s223, s224, s225, s226, s227, s228, s229, s230, _, _, _, _, s235, s236, s237, s238, s239, s240, s241, s242, s243, s244, s245, s246, s247, s248, s249, s250, s251, s252, s253, s254, s255, s256, s14⟩, rfl, rfl, h0, h1, h2, h3, h4, h5, h6, h7, h8, h9, h10, h11, h12, h13, h14, h15, (fun _ => rfl), h17, h18, h19, h20, h21, h22, h23, h24, h25, h26, h27, h28, h29, h30, h31, h32, h33, h34, h35, h36, h37, h38, h39, gM, gV, gX, gO⟩
    · have hn17 : b17 = false := by revert hp; cases b17 <;> simp
      have e13 : b13 = true := by revert hp; cases b13 <;> simp
      have e16 : b16 = true := by revert hp; cases b16 <;> simp
      clear hp
      obtain rfl := (HI.out.2.2.2.2.2.2.2.2.2.2.2.2.2.1) e13
      obtain rfl := (HI.out.2.2.2.2.2.2.2.2.2.2.2.2.2.2.2.2.1) e16
      subst hn17
      refine inv_op (o := ⟨some 235, _, _, _, _, _⟩) rfl (fun K' hK' => ?_)
      go_simp
      obtain ⟨h0, h1, h2, h3, h4, h5, h6, h7, h8, h9, h10, h11, h12, h13, h14, h15, h16, h17, h18, h19, h20, h21, h22, h23, h24, h25, h26, h27, h28, h29, h30, h31, h32, h33, h34, h35, h36, h37, h38, h39, gM, gV, gX, gO⟩ := HI.out
      exact hK'.out _ _ ⟨⟨b0, b1, b2, b3, b4, b5, b6, b7, b8, b9, b10, b11, b12, b13, b14, b15, b16, true, b18, b19, b20, b21, b22, b23, b24, b25, b26, b27, b28, b29, b30, b31, b32, b33, b34, b35, b36, b37, b38, b39, s218, s219, s220, s221, s222, s223, s224, s225, s226, s227, s228, s229, s230, _, s232, s233, _, _, s236, s237, s238, s239, s240, s241, s242, s243, s244, s245, s246, s247, s248, s249, s250, s251, s252, s253, s254, s255, s256, s14⟩, rfl, rfl, h0, h1, h2, h3, h4, h5, h6, h7, h8, h9, h10, h11, h12, h13, h14, h15, h16, (fun _ => rfl), h18, h19, h20, h21, h22, h23, h24, h25, h26, h27, h28, h29, h30, h31, h32, h33, h34, h35, h36, h37, h38, h39, gM, gV, gX, gO⟩
    · have hn18 : b18 = false := by revert hp; cases b18 <;> simp
      have e17 : b17 = true := by revert hp; cases b17 <;> simp
      clear hp
      obtain rfl := (HI.out.2.2.2.2.2.2.2.2.2.2.2.2.2.2.2.2.2.1) e17
      subst hn18
      refine inv_op (o := ⟨some 236, _, _, _, _, _⟩) rfl (fun K' hK' => ?_)
      go_simp
      obtain ⟨h0, h1, h2, h3, h4, h5, h6, h7, h8, h9, h10, h11, h12, h13, h14, h15, h16, h17, h18, h19, h20, h21, h22, h23, h24, h25, h26, h27, h28, h29, h30, h31, h32, h33, h34, h35, h36, h37, h38, h39, gM, gV, gX, gO⟩ := HI.out
      exact hK'.out _ _ ⟨⟨b0, b1, b2, b3, b4, b5, b6, b7, b8, b9, b10, b11, b12, b13, b14, b15, b16, b17, true, b19, b20, b21, b22, b23, b24, b25, b26, b27, b28, b29, b30, b31, b32, b33, b34, b35, b36, b37, b38, b39, s218, s219, s220, s221, s222, s223, s224, s225, s226, s227, s228, s229, s230, s231, s232, s233, s234, _, _, s237, s238, s239, s240, s241, s242, s243, s244, s245, s246, s247, s248, s249, s250, s251, s252, s253, s254, s255, s256, s14⟩, rfl, rfl, h0, h1, h2, h3, h4, h5, h6, h7, h8, h9, h10, h11, h12, h13, h14, h15, h16, h17, (fun _ => rfl), h19, h20, h21, h22, h23, h24, h25, h26, h27, h28, h29, h30, h31, h32, h33, h34, h35, h36, h37, h38, h39, gM, gV, gX, gO⟩
    · have hn19 : b19 = false := by revert hp; cases b19 <;> simp
      have e18 : b18 = true := by revert hp; cases b18 <;> simp
      clear hp
      obtain rfl := (HI.out.2.2.2.2.2.2.2.2.2.2.2.2.2.2.2.2.2.2.1) e18
      subst hn19
      refine inv_op (o := ⟨some 237, _, _, _, _, _⟩) rfl (fun K' hK' => ?_)
      go_simp
      obtain ⟨h0, h1, h2, h3, h4, h5, h6, h7, h8, h9, h10, h11, h12, h13, h14, h15, h16, h17, h18, h19, h20, h21, h22, h23, h24, h25, h26, h27, h28, h29, h30, h31, h32, h33, h34, h35, h36, h37, h38, h39, gM, gV, gX, gO⟩ := HI.out
      exact hK'.out _ _ ⟨⟨b0, b1, b2, b3, b4, b5, b6, b7, b8, b9, b10, b11, b12, b13, b14, b15, b16, b17, b18, true, b20, b21, b22, b23, b24, b25, b26, b27, b28, b29, b30, b31, b32, b33, b34, b35, b36, b37, b38, b39, s218, s219, s220, s221, s222, s223, s224, s225, s226, s227, s228, s229, s230, s231, s232, s233, s234, s235, _, _, s238, s239, s240, s241, s242, s243, s244, s245, s246, s247, s248, s249, s250, s251, s252, s253, s254, s255, s256, s14⟩, rfl, rfl, h0, h1, h2, h3, h4, h5, h6, h7, h8, h9, h10, h11, h12, h13, h14, h15, h16, h17, h18, (fun _ => rfl), h20, h21, h22, h23, h24, h25, h26, h27, h28, h29, h30, h31, h32, h33, h34, h35, h36, h37, h38, h39, gM, gV, gX, gO⟩
    · have hn20 : b20 = false := by revert hp; cases b20 <;> simp
      have e19 : b19 = true := by revert hp; cases b19 <;> simp
      have e18 : b18 = true := by revert hp; cases b18 <;> simp
      clear hp
      obtain rfl := (HI.out.2.2.2.2.2.2.2.2.2.2.2.2.2.2.2.2.2.2.2.1) e19
      obtain rfl := (HI.out.2.2.2.2.2.2.2.2.2.2.2.2.2.2.2.2.2.2.1) e18
      subst hn20
      refine inv_op (o := ⟨some 238, _, _, _, _, _⟩) rfl (fun K' hK' => ?_)
      go_simp
      refine (HSZ.out W).mono ?_
      rintro e w9 ⟨rfl, bn⟩
      obtain ⟨h0, h1, h2, h3, h4, h5, h6, h7, h8, h9, h10, h11, h12, h13, h14, h15, h16, h17, h18, h19, h20, h21, h22, h23, h24, h25, h26, h27, h28, h29, h30, h31, h32, h33, h34, h35, h36, h37, h38, h39, gM, gV, gX, gO⟩ := HI.out
      exact hK'.out _ _ ⟨⟨b0, b1, b2, b3, b4, b5, b6, b7, b8, b9, b10, b11, b12, b13, b14, b15, b16, b17, b18, b19, true, b21, b22, b23, b24, b25, b26, b27, b28, b29, b30, b31, b32, b33, b34, b35, b36, b37, b38, b39, s218, s219, s220, s221, s222, s223, s224, s225, s226, s227, s228, s229, s230, s231, s232, s233, s234, s235, _, _, _, s239, s240, s241, s242, s243, s244, s245, s246, s247, s248, s249, s250, s251, s252, s253, s254, s255, s256, s14⟩, rfl, rfl, h0, h1, h2, h3, h4, h5, h6, h7, h8, h9, h10, h11, h12, h13, h14, h15, h16, h17, h18, h19, (fun _ => rfl), h21, h22, h23, h24, h25, h26, h27, h28, h29, h30, h31, h32, h33, h34, h35, h36, h37, h38, h39, (row_keep gM bn), (row_keep gV bn), (row_keep gX bn), (gO.trans (bn.mono gO.size))⟩
    · have hn21 : b21 = false := by revert hp; cases b21 <;> simp
      have e18 : b18 = true := by revert hp; cases b18 <;> simp
      clear hp
      obtain rfl := (HI.out.2.2.2.2.2.2.2.2.2.2.2.2.2.2.2.2.2.2.1) e18
      subst hn21
      refine inv_op (o := ⟨some 239, _, _, _, _, _⟩) rfl (fun K' hK' => ?_)
      go_simp
      obtain ⟨h0, h1, h2, h3, h4, h5, h6, h7, h8, h9, h10, h11, h12, h13, h14, h15, h16, h17, h18, h19, h20, h21, h22, h23, h24, h25, h26, h27, h28, h29, h30, h31, h32, h33, h34, h35, h36, h37, h38, h39, gM, gV, gX, gO⟩ := HI.out
      exact hK'.out _ _ ⟨⟨b0, b1, b2, b3, b4, b5, b6, b7, b8, b9, b10, b11, b12, b13, b14, b15, b16, b17, b18, b19, b20, true, b22, b23, b24, b25, b26, b27, b28, b29, b30, b31, b32, b33, b34, b35, b36, b37, b38, b39, s218, s219, s220, s221, s222, s223, s224, s225, s226, s227, s228, s229, s230, s231, s232, s233, s234, s235, _, s237, s238, _, s240, s241, s242, s243, s244, s245, s246, s247, s248, s249, s250, s251, s252, s253, s254, s255, s256, s14⟩, rfl, rfl, h0, h1, h2, h3, h4, h5, h6, h7, h8, h9, h10, h11, h12, h13, h14, h15, h16, h17, h18, h19, h20, (fun _ => rfl), h22, h23, h24, h25, h26, h27, h28, h29, h30, h31, h32, h33, h34, h35, h36, h37, h38, h39, gM, gV, gX, gO⟩
    · have hn22 : b22 = false := by revert hp; cases b22 <;> simp
      have e21 : b21 = true := by revert hp; cases b21 <;> simp
      have e18 : b18 = true := by revert hp; cases b18 <;> simp
      clear hp
      obtain rfl := (HI.out.2.2.2.2.2.2.2.2.2.2.2.2.2.2.2.2.2.2.2.2.2.1) e21
      obtain rfl := (HI.out.2.2.2.2.2.2.2.2.2.2.2.2.2.2.2.2.2.2.1) e18
      subst hn22
      refine inv_op (o := ⟨some 240, _, _, _, _, _⟩) rfl (fun K' hK' => ?_)
      go_simp
      refine (HSR.out W).mono ?_
      rintro e w9 ⟨rfl, rfl⟩
      obtain ⟨h0, h1, h2, h3, h4, h5, h6, h7, h8, h9, h10, h11, h12, h13, h14, h15, h16, h17, h18, h19, h20, h21, h22, h23, h24, h25, h26, h27, h28, h29, h30, h31, h32, h33, h34, h35, h36, h37, h38, h39, gM, gV, gX, gO⟩ := HI.out
      exact hK'.out _ _ ⟨⟨b0, b1, b2, b3, b4, b5, b6, b7, b8, b9, b10, b11, b12, b13, b14, b15, b16, b17, b18, b19, b20, b21, true, b23, b24, b25, b26, b27, b28, b29, b30, b31, b32, b33, b34, b35, b36, b37, b38, b39, s218, s219, s220, s221, s222, s223, s224, s225, s226, s227, s228, s229, s230, s231, s232, s233, s234, s235, _, s237, s238, _, _, s241, s242, s243, s244, s245, s246, s247, s248, s249, s250, s251, s252, s253, s254, s255, s256, s14⟩, rfl, rfl, h0, h1, h2, h3, h4, h5, h6, h7, h8, h9, h10, h11, h12, h13, h14, h15, h16, h17, h18, h19, h20, h21, (fun _ => rfl), h23, h24, h25, h26, h27, h28, h29, h30, h31, h32, h33, h34, h35, h36, h37, h38, h39, gM, gV, gX, gO⟩
    · have hn23 : b23 = false := by revert hp; cases b23 <;> simp
      have e20 : b20 = true := by revert hp; cases b20 <;> simp
      have e22 : b22 = true := by revert hp; cases b22 <;> simp
      have e18 : b18 = true := by revert hp; cases b18 <;> simp
      clear hp
      obtain rfl := (HI.out.2.2.2.2.2.2.2.2.2.2.2.2.2.2.2.2.2.2.2.2.1) e20
      obtain rfl := (HI.out.2.2.2.2.2.2.2.2.2.2.2.2.2.2.2.2.2.2.2.2.2.2.1) e22
      obtain rfl := (HI.out.2.2.2.2.2.2.2.2.2.2.2.2.2.2.2.2.2.2.1) e18
      subst hn23
      refine inv_op (o := ⟨some 241, _, _, _, _, _⟩) rfl (fun K' hK' => ?_)
      go_simp
      obtain ⟨h0, h1, h2, h3, h4, h5, h6, h7, h8, h9, h10, h11, h12, h13, h14, h15, h16, h17, h18, h19, h20, h21, h22, h23, h24, h25, h26, h27, h28, h29, h30, h31, h32, h33, h34, h35, h36, h37, h38, h39, gM, gV, gX, gO⟩ := HI.out
      exact hK'.out _ _ ⟨⟨b0, b1, b2, b3, b4, b5, b6, b7, b8, b9, b10, b11, b12, b13, b14, b15, b16, b17, b18, b19, b20, b21, b22, true, b24, b25, b26, b27, b28, b29, b30, b31, b32, b33, b34, b35, b36, b37, b38, b39, s218, s219, s220, s221, s222, s223, s224, s225, s226, s227, s228, s229, s230, s231, s232, s233, s234, s235, _, s237, _, s239, _, _, s242, s243, s244, s245, s246, s247, s248, s249, s250, s251, s252, s253, s254, s255, s256, s14⟩, rfl, rfl, h0, h1, h2, h3, h4, h5, h6, h7, h8, h9, h10, h11, h12, h13, h14, h15, h16, h17, h18, h19, h20, h21, h22, (fun _ => rfl), h24, h25, h26, h27, h28, h29, h30, h31, h32, h33, h34, h35, h36, h37, h38, h39, gM, gV, gX, gO⟩
    · have hn24 : b24 = false := by revert hp; cases b24 <;> simp
      have e18 : b18 = true := by revert hp; cases b18 <;> simp
      have e23 : b23 = true := by revert hp; cases b23 <;> simp
      clear hp
      obtain rfl := (HI.out.2.2.2.2.2.2.2.2.2.2.2.2.2.2.2.2.2.2.1) e18
      obtain rfl := (HI.out.2.2.2.2.2.2.2.2.2.2.2.2.2.2.2.2.2.2.2.2.2.2.2.1) e23
      subst hn24
      refine inv_op (o := ⟨some 242, _, _, _, _, _⟩) rfl (fun K' hK' => ?_)
      go_simp
      obtain ⟨h0, h1, h2, h3, h4, h5, h6, h7, h8, h9, h10, h11, h12, h13, h14, h15, h16, h17, h18, h19, h20, h21, h22, h23, h24, h25, h26, h27, h28, h29, h30, h31, h32, h33, h34, h35, h36, h37, h38, h39, gM, gV, gX, gO⟩ := HI.out
      exact hK'.out _ _ ⟨⟨b0, b1, b2, b3, b4, b5, b6, b7, b8, b9, b10, b11, b12, b13, b14, b15, b16, b17, b18, b19, b20, b21, b22, b23, true, b25, b26, b27, b28, b29, b30, b31, b32, b33, b34, b35, b36, b37, b38, b39, s218, s219, s220, s221, s222, s223, s224, s225, s226, s227, s228, s229, s230, s231, s232, s233, s234, s235, _, s237, s238, s239, s240, _, _, s243, s244, s245, s246, s247, s248, s249, s250, s251, s252, s253, s254, s255, s256, s14⟩, rfl, rfl, h0, h1, h2, h3, h4, h5, h6, h7, h8, h9, h10, h11, h12, h13, h14, h15, h16, h17, h18, h19, h20, h21, h22, h23, (fun _ => rfl), h25, h26, h27, h28, h29, h30, h31, h32, h33, h34, h35, h36, h37, h38, h39, gM, gV, gX, gO⟩
    · have hn25 : b25 = false := by revert hp; cases b25 <;> simp
      have e24 : b24 = true := by revert hp; cases b24 <;> simp
      clear hp
      obtain rfl := (HI.out.2.2.2.2.2.2.2.2.2.2.2.2.2.2.2.2.2.2.2.2.2.2.2.2.1) e24
      subst hn25
      refine inv_op (o := ⟨some 243, _, _, _, _, _⟩) rfl (fun K' hK' => ?_)
      go_simp
      obtain ⟨h0, h1, h2, h3, h4, h5, h6, h7, h8, h9, h10, h11, h12, h13, h14, h15, h16, h17, h18, h19, h20, h21, h22, h23, h24, h25, h26, h27, h28, h29, h30, h31, h32, h33, h34, h35, h36, h37, h38, h39, gM, gV, gX, gO⟩ := HI.out
      exact hK'.out _ _ ⟨⟨b0, b1, b2, b3, b4, b5, b6, b7, b8, b9, b10, b11, b12, b13, b14, b15, b16, b17, b18, b19, b20, b21, b22, b23, b24, true, b26, b27, b28, b29, b30, b31, b32, b33, b34, b35, b36, b37, b38, b39, s218, s219, s220, s221, s222, s223, s224, s225, s226, s227, s228, s229, s230, s231, s232, s233, s234, s235, s236, s237, s238, s239, s240, s241, _, _, s244, s245, s246, s247, s248, s249, s250, s251, s252, s253, s254, s255, s256, s14⟩, rfl, rfl, h0, h1, h2, h3, h4, h5, h6, h7, h8, h9, h10, h11, h12, h13, h14, h15, h16, h17, h18, h19, h20, h21, h22, h23, h24, (fun _ => rfl), h26, h27, h28, h29, h30, h31, h32, h33, h34, h35, h36, h37, h38, h39, gM, gV, gX, gO⟩
    · have hn26 : b26 = false := by revert hp; cases b26 <;> simp
      have e25 : b25 = true := by revert hp; cases b25 <;> simp
      clear hp
      obtain rfl := (HI.out.2.2.2.2.2.2.2.2.2.2.2.2.2.2.2.2.2.2.2.2.2.2.2.2.2.1) e25
      subst hn26
      refine inv_op (o := ⟨some 244, _, _, _, _, _⟩) rfl (fun K' hK' => ?_)
      have gM := HI.out.2.2.2.2.2.2.2.2.2.2.2.2.2.2.2.2.2.2.2.2.2.2.2.2.2.2.2.2.2.2.2.2.2.2.2.2.2.2.2.2.1
      obtain ⟨hc1, hc2⟩ := one_cell gM
      go_simp
      obtain ⟨h0, h1, h2, h3, h4, h5, h6, h7, h8, h9, h10, h11, h12, h13, h14, h15, h16, h17, h18, h19, h20, h21, h22, h23, h24, h25, h26, h27, h28, h29, h30, h31, h32, h33, h34, h35, h36, h37, h38, h39, gM, gV, gX, gO⟩ := HI.out
      exact hK'.out _ _ ⟨⟨b0, b1, b2, b3, b4, b5, b6, b7, b8, b9, b10, b11, b12, b13, b14, b15, b16, b17, b18, b19, b20, b21, b22, b23, b24, b25, true, b27, b28, b29, b30, b31, b32, b33, b34, b35, b36, b37, b38, b39, s218, s219, s220, s221, s222, s223, s224, s225, s226, s227, s228, s229, s230, s231, s232, s233, s234, s235, s236, s237, s238, s239, s240, s241, s242, _, _, s245, s246, s247, s248, s249, s250, s251, s252, s253, s254, s255, s256, s14⟩, rfl, rfl, h0, h1, h2, h3, h4, h5, h6, h7, h8, h9, h10, h11, h12, h13, h14, h15, h16, h17, h18, h19, h20, h21, h22, h23, h24, h25, (fun _ => rfl), h27, h28, h29, h30, h31, h32, h33, h34, h35, h36, h37, h38, h39, gM, gV, gX, gO⟩
    · have hn27 : b27 = false := by revert hp; cases b27 <;> simp
      have e25 : b25 = true := by revert hp; cases b25 <;> simp
      clear hp
      obtain rfl := (HI.out.2.2.2.2.2.2.2.2.2.2.2.2.2.2.2.2.2.2.2.2.2.2.2.2.2.1) e25
      subst hn27
      refine inv_op (o := ⟨some 245, _, _, _, _, _⟩) rfl (fun K' hK' => ?_)
      go_simp
      obtain ⟨h0, h1, h2, h3, h4, h5, h6, h7, h8, h9, h10, h11, h12, h13, h14, h15, h16, h17, h18, h19, h20, h21, h22, h23, h24, h25, h26, h27, h28, h29, h30, h31, h32, h33, h34, h35, h36, h37, h38, h39, gM, gV, gX, gO⟩ := HI.out
      exact hK'.out _ _ ⟨⟨b0, b1, b2, b3, b4, b5, b6, b7, b8, b9, b10, b11, b12, b13, b14, b15, b16, b17, b18, b19, b20, b21, b22, b23, b24, b25, b26, true, b28, b29, b30, b31, b32, b33, b34, b35, b36, b37, b38, b39, s218, s219, s220, s221, s222, s223, s224, s225, s226, s227, s228, s229, s230, s231, s232, s233, s234, s235, s236, s237, s238, s239, s240, s241, s242, _, s244, _, s246, s247, s248, s249, s250, s251, s252, s253, s254, s255, s256, s14⟩, rfl, rfl, h0, h1, h2, h3, h4, h5, h6, h7, h8, h9, h10, h11, h12, h13, h14, h15, h16, h17, h18, h19, h20, h21, h22, h23, h24, h25, h26, (fun _ => rfl), h28, h29, h30, h31, h32, h33, h34, h35, h36, h37, h38, h39, gM, gV, gX, gO⟩
    · have hn28 : b28 = false := by revert hp; cases b28 <;> simp
      have e25 : b25 = true := by revert hp; cases b25 <;> simp
      clear hp
      obtain rfl := (HI.out.2.2.2.2.2.2.2.2.2.2.2.2.2.2.2.2.2.2.2.2.2.2.2.2.2.1) e25
      subst hn28
      refine inv_op (o := ⟨some 246, _, _, _, _, _⟩) rfl (fun K' hK' => ?_)
      go_simp
      obtain ⟨h0, h1, h2, h3, h4, h5, h6, h7, h8, h9, h10, h11, h12, h13, h14, h15, h16, h17, h18, h19, h20, h21, h22, h23, h24, h25, h26, h27, h28, h29, h30, h31, h32, h33, h34, h35, h36, h37, h38, h39, gM, gV, gX, gO⟩ := HI.out
      exact hK'.out _ _ ⟨⟨b0, b1, b2, b3, b4, b5, b6, b7, b8, b9, b10, b11, b12, b13, b14, b15, b16, b17, b18, b19, b20, b21, b22, b23, b24, b25, b26, b27, true, b29, b30, b31, b32, b33, b34, b35, b36, b37, b38, b39, s218, s219, s220, s221, s222, s223, s224, s225, s226, s227, s228, s229, s230, s231, s232, s233, s234, s235, s236, s237, s238, s239, s240, s241, s242, _, s244, s245, _, s247, s248, s249, s250, s251, s252, s253, s254, s255, s256, s14⟩, rfl, rfl, h0, h1, h2, h3, h4, h5, h6, h7, h8, h9, h10, h11, h12, h13, h14, h15, h16, h17, h18, h19, h20, h21, h22, h23, h24, h25, h26, h27, (fun _ => rfl), h29, h30, h31, h32, h33, h34, h35, h36, h37, h38, h39, gM, gV, gX, gO⟩
    · have hn29 : b29 = false := by revert hp; cases b29 <;> simp
      have e26 : b26 = true := by revert hp; cases b26 <;> simp
      have e27 : b27 = true := by revert hp; cases b27 <;> simp
      have e28 : b28 = true := by revert hp; cases b28 <;> simp
      have e25 : b25 = true := by revert hp; cases b25 <;> simp
      clear hp
      obtain rfl := (HI.out.2.2.2.2.2.2.2.2.2.2.2.2.2.2.2.2.2.2.2.2.2.2.2.2.2.2.1) e26
      obtain rfl := (HI.out.2.2.2.2.2.2.2.2.2.2.2.2.2.2.2.2.2.2.2.2.2.2.2.2.2.2.2.1) e27
      obtain rfl := (HI.out.2.2.2.2.2.2.2.2.2.2.2.2.2.2.2.2.2.2.2.2.2.2.2.2.2.2.2.2.1) e28
      obtain rfl := (HI.out.2.2.2.2.2.2.2.2.2.2.2.2.2.2.2.2.2.2.2.2.2.2.2.2.2.1) e25
      subst hn29
      refine inv_op (o := ⟨some 247, _, _, _, _, _⟩) rfl (fun K' hK' => ?_)
      go_simp
      refine (HCK.out W).mono ?_
      rintro e w9 ⟨rfl, bn⟩
      obtain ⟨h0, h1, h2, h3, h4, h5, h6, h7, h8, h9, h10, h11, h12, h13, h14, h15, h16, h17, h18, h19, h20, h21, h22, h23, h24, h25, h26, h27, h28, h29, h30, h31, h32, h33, h34, h35, h36, h37, h38, h39, gM, gV, gX, gO⟩ := HI.out
      exact hK'.out _ _ ⟨⟨b0, b1, b2, b3, b4, b5, b6, b7, b8, b9, b10, b11, b12, b13, b14, b15, b16, b17, b18, b19, b20, b21, b22, b23, b24, b25, b26, b27, b28, true, b30, b31, b32, b33, b34, b35, b36, b37, b38, b39, s218, s219, s220, s221, s222, s223, s224, s225, s226, s227, s228, s229, s230, s231, s232, s233, s234, s235, s236, s237, s238, s239, s240, s241, s242, _, _, _, _, _, s248, s249, s250, s251, s252, s253, s254, s255, s256, s14⟩, rfl, rfl, h0, h1, h2, h3, h4, h5, h6, h7, h8, h9, h10, h11, h12, h13, h14, h15, h16, h17, h18, h19, h20, h21, h22, h23, h24, h25, h26, h27, h28, (fun _ => rfl), h30, h31, h32, h33, h34, h35, h36, h37, h38, h39, (row_keep gM bn), (row_keep gV bn), (row_keep gX bn), (gO.trans (bn.mono gO.size))⟩
    · have hn30 : b30 = false := by revert hp; cases b30 <;> simp
      have e25 : b25 = true := by revert hp; cases b25 <;> simp
      clear hp
      obtain rfl := (HI.out.2.2.2.2.2.2.2.2.2.2.2.2.2.2.2.2.2.2.2.2.2.2.2.2.2.1) e25
      subst hn30
      refine inv_op (o := ⟨some 248, _, _, _, _, _⟩) rfl (fun K' hK' => ?_)
      have gM := HI.out.2.2.2.2.2.2.2.2.2.2.2.2.2.2.2.2.2.2.2.2.2.2.2.2.2.2.2.2.2.2.2.2.2.2.2.2.2.2.2.2.1
      obtain ⟨hc1, hc2⟩ := one_cell gM
      go_simp
      obtain ⟨h0, h1, h2, h3, h4, h5, h6, h7, h8, h9, h10, h11, h12, h13, h14, h15, h16, h17, h18, h19, h20, h21, h22, h23, h24, h25, h26, h27, h28, h29, h30, h31, h32, h33, h34, h35, h36, h37, h38, h39, gM, gV, gX, gO⟩ := HI.out
      exact hK'.out _ _ ⟨⟨b0, b1, b2, b3, b4, b5, b6, b7, b8, b9, b10, b11, b12, b13, b14, b15, b16, b17, b18, b19, b20, b21, b22, b23, b24, b25, b26, b27, b28, b29, true, b31, b32, b33, b34, b35, b36, b37, b38, b39, s218, s219, s220, s221, s222, s223, s224, s225, s226, s227, s228, s229, s230, s231, s232, s233, s234, s235, s236, s237, s238, s239, s240, s241, s242, _, s244, s245, s246, s247, _, s249, s250, s251, s252, s253, s254, s255, s256, s14⟩, rfl, rfl, h0, h1, h2, h3, h4, h5, h6, h7, h8, h9, h10, h11, h12, h13, h14, h15, h16, h17, h18, h19, h20, h21, h22, h23, h24, h25, h26, h27, h28, h29, (fun _ => rfl), h31, h32, h33, h34, h35, h36, h37, h38, h39, gM, gV, gX, gO⟩
    · have hn31 : b31 = false := by revert hp; cases b31 <;> simp
      have e25 : b25 = true := by revert hp; cases b25 <;> simp
      clear hp
      obtain rfl := (HI.out.2.2.2.2.2.2.2.2.2.2.2.2.2.2.2.2.2.2.2.2.2.2.2.2.2.1) e25
      subst hn31
      refine inv_op (o := ⟨some 249, _, _, _, _, _⟩) rfl (fun K' hK' => ?_)
      go_simp
      obtain ⟨h0, h1, h2, h3, h4, h5, h6, h7, h8, h9, h10, h11, h12, h13, h14, h15, h16, h17, h18, h19, h20, h21, h22, h23, h24, h25, h26, h27, h28, h29, h30, h31, h32, h33, h34, h35, h36, h37, h38, h39, gM, gV, gX, gO⟩ := HI.out
      exact hK'.out _ _ ⟨⟨b0, b1, b2, b3, b4, b5, b6, b7, b8, b9, b10, b11, b12, b13, b14, b15, b16, b17, b18, b19, b20, b21, b22, b23, b24, b25, b26, b27, b28, b29, b30, true, b32, b33, b34, b35, b36, b37, b38, b39, s218, s219, s220, s221, s222, s223, s224, s225, s226, s227, s228, s229, s230, s231, s232, s233, s234, s235, s236, s237, s238, s239, s240, s241, s242, _, s244, s245, s246, s247, s248, _, s250, s251, s252, s253, s254, s255, s256, s14⟩, rfl, rfl, h0, h1, h2, h3, h4, h5, h6, h7, h8, h9, h10, h11, h12, h13, h14, h15, h16, h17, h18, h19, h20, h21, h22, h23, h24, h25, h26, h27, h28, h29, h30, (fun _ => rfl), h32, h33, h34, h35, h36, h37, h38, h39, gM, gV, gX, gO⟩
    · have hn32 : b32 = false := by revert hp; cases b32 <;> simp
      have e25 : b25 = true := by revert hp; cases b25 <;> simp
      clear hp
      obtain rfl := (HI.out.2.2.2.2.2.2.2.2.2.2.2.2.2.2.2.2.2.2.2.2.2.2.2.2.2.1) e25
      subst hn32
      refine inv_op (o := ⟨some 250, _, _, _, _, _⟩) rfl (fun K' hK' => ?_)
      go_simp
      obtain ⟨h0, h1, h2, h3, h4, h5, h6, h7, h8, h9, h10, h11, h12, h13, h14, h15, h16, h17, h18, h19, h20, h21, h22, h23, h24, h25, h26, h27, h28, h29, h30, h31, h32, h33, h34, h35, h36, h37, h38, h39, gM, gV, gX, gO⟩ := HI.out
      exact hK'.out _ _ ⟨⟨b0, b1, b2, b3, b4, b5, b6, b7, b8, b9, b10, b11, b12, b13, b14, b15, b16, b17, b18, b19, b20, b21, b22, b23, b24, b25, b26, b27, b28, b29, b30, b31, true, b33, b34, b35, b36, b37, b38, b39, s218, s219, s220, s221, s222, s223, s224, s225, s226, s227, s228, s229, s230, s231, s232, s233, s234, s235, s236, s237, s238, s239, s240, s241, s242, _, s244, s245, s246, s247, s248, s249, _, s251, s252, s253, s254, s255, s256, s14⟩, rfl, rfl, h0, h1, h2, h3, h4, h5, h6, h7, h8, h9, h10, h11, h12, h13, h14, h15, h16, h17, h18, h19, h20, h21, h22, h23, h24, h25, h26, h27, h28, h29, h30, h31, (fun _ => rfl), h33, h34, h35, h36, h37, h38, h39, gM, gV, gX, gO⟩
    · have hn33 : b33 = false := by revert hp; cases b33 <;> simp
      have e30 : b30 = true := by revert hp; cases b30 <;> simp
      have e31 : b31 = true := by revert hp; cases b31 <;> simp
      have e32 : b32 = true := by revert hp; cases b32 <;> simp
      have e25 : b25 = true := by revert hp; cases b25 <;> simp
      clear hp
      obtain rfl := (HI.out.2.2.2.2.2.2.2.2.2.2.2.2.2.2.2.2.2.2.2.2.2.2.2.2.2.2.2.2.2.2.1) e30
      obtain rfl := (HI.out.2.2.2.2.2.2.2.2.2.2.2.2.2.2.2.2.2.2.2.2.2.2.2.2.2.2.2.2.2.2.2.1) e31
      obtain rfl := (HI.out.2.2.2.2.2.2.2.2.2.2.2.2.2.2.2.2.2.2.2.2.2.2.2.2.2.2.2.2.2.2.2.2.1) e32
      obtain rfl := (HI.out.2.2.2.2.2.2.2.2.2.2.2.2.2.2.2.2.2.2.2.2.2.2.2.2.2.1) e25
      subst hn33
      refine inv_op (o := ⟨some 251, _, _, _, _, _⟩) rfl (fun K' hK' => ?_)
      go_simp
      refine (HCR.out W).mono ?_
      rintro e w9 ⟨rfl, bn⟩
      obtain ⟨h0, h1, h2, h3, h4, h5, h6, h7, h8, h9, h10, h11, h12, h13, h14, h15, h16, h17, h18, h19, h20, h21, h22, h23, h24, h25, h26, h27, h28, h29, h30, h31, h32, h33, h34, h35, h36, h37, h38, h39, gM, gV, gX, gO⟩ := HI.out
      exact hK'.out _ _ ⟨⟨b0, b1, b2, b3, b4, b5, b6, b7, b8, b9, b10, b11, b12, b13, b14, b15, b16, b17, b18, b19, b20, b21, b22, b23, b24, b25, b26, b27, b28, b29, b30, b31, b32, true, b34, b35, b36, b37, b38, b39, s218, s219, s220, s221, s222, s223, s224, s225, s226, s227, s228, s229, s230, s231, s232, s233, s234, s235, s236, s237, s238, s239, s240, s241, s242, _, s244, s245, s246, s247, _, _, _, _, s252, s253, s254, s255, s256, s14⟩, rfl, rfl, h0, h1, h2, h3, h4, h5, h6, h7, h8, h9, h10, h11, h12, h13, h14, h15, h16, h17, h18, h19, h20, h21, h22, h23, h24, h25, h26, h27, h28, h29, h30, h31, h32, (fun _ => rfl), h34, h35, h36, h37, h38, h39, (row_keep gM bn), (row_keep gV bn), (row_keep gX bn), (gO.trans (bn.mono gO.size))⟩
    · have hn34 : b34 = false := by revert hp; cases b34 <;> simp
      have e29 : b29 = true := by revert hp; cases b29 <;> simp
      have e33 : b33 = true := by revert hp; cases b33 <;> simp
      have e25 : b25 = true := by revert hp; cases b25 <;> simp
      clear hp
      obtain rfl := (HI.out.2.2.2.2.2.2.2.2.2.2.2.2.2.2.2.2.2.2.2.2.2.2.2.2.2.2.2.2.2.1) e29
      obtain rfl := (HI.out.2.2.2.2.2.2.2.2.2.2.2.2.2.2.2.2.2.2.2.2.2.2.2.2.2.2.2.2.2.2.2.2.2.1) e33
      obtain rfl := (HI.out.2.2.2.2.2.2.2.2.2.2.2.2.2.2.2.2.2.2.2.2.2.2.2.2.2.1) e25
      subst hn34
      refine inv_op (o := ⟨some 252, _, _, _, _, _⟩) rfl (fun K' hK' => ?_)
      go_simp
      obtain ⟨h0, h1, h2, h3, h4, h5, h6, h7, h8, h9, h10, h11, h12, h13, h14, h15, h16, h17, h18, h19, h20, h21, h22, h23, h24, h25, h26, h27, h28, h29, h30, h31, h32, h33, h34, h35, h36, h37, h38, h39, gM, gV, gX, gO⟩ := HI.out
      exact hK'.out _ _ ⟨⟨b0, b1, b2, b3, b4, b5, b6, b7, b8, b9, b10, b11, b12, b13, b14, b15, b16, b17, b18, b19, b20, b21, b22, b23, b24, b25, b26, b27, b28, b29, b30, b31, b32, b33, true, b35, b36, b37, b38, b39, s218, s219, s220, s221, s222, s223, s224, s225, s226, s227, s228, s229, s230, s231, s232, s233, s234, s235, s236, s237, s238, s239, s240, s241, s242, _, s244, s245, s246, _, s248, s249, s250, _, _, s253, s254, s255, s256, s14⟩, rfl, rfl, h0, h1, h2, h3, h4, h5, h6, h7, h8, h9, h10, h11, h12, h13, h14, h15, h16, h17, h18, h19, h20, h21, h22, h23, h24, h25, h26, h27, h28, h29, h30, h31, h32, h33, (fun _ => rfl), h35, h36, h37, h38, h39, gM, gV, gX, gO⟩
    · have hn35 : b35 = false := by revert hp; cases b35 <;> simp
      have e25 : b25 = true := by revert hp; cases b25 <;> simp
      have e34 : b34 = true := by revert hp; cases b34 <;> simp
      clear hp
      obtain rfl := (HI.out.2.2.2.2.2.2.2.2.2.2.2.2.2.2.2.2.2.2.2.2.2.2.2.2.2.1) e25
      obtain rfl := (HI.out.2.2.2.2.2.2.2.2.2.2.2.2.2.2.2.2.2.2.2.2.2.2.2.2.2.2.2.2.2.2.2.2.2.2.1) e34
      subst hn35
      refine inv_op (o := ⟨some 253, _, _, _, _, _⟩) rfl (fun K' hK' => ?_)
      go_simp
      obtain ⟨h0, h1, h2, h3, h4, h5, h6, h7, h8, h9, h10, h11, h12, h13, h14, h15, h16, h17, h18, h19, h20, h21, h22, h23, h24, h25, h26, h27, h28, h29, h30, h31, h32, h33, h34, h35, h36, h37, h38, h39, gM, gV, gX, gO⟩ := HI.out
      exact hK'.out _ _ ⟨⟨b0, b1, b2, b3, b4, b5, b6, b7, b8, b9, b10, b11, b12, b13, b14, b15, b16, b17, b18, b19, b20, b21, b22, b23, b24, b25, b26, b27, b28, b29, b30, b31, b32, b33, b34, true, b36, b37, b38, b39, s218, s219, s220, s221, s222, s223, s224, s225, s226, s227, s228, s229, s230, s231, s232, s233, s234, s235, s236, s237, s238, s239, s240, s241, s242, _, s244, s245, s246, s247, s248, s249, s250, s251, _, _, s254, s255, s256, s14⟩, rfl, rfl, h0, h1, h2, h3, h4, h5, h6, h7, h8, h9, h10, h11, h12, h13, h14, h15, h16, h17, h18, h19, h20, h21, h22, h23, h24, h25, h26, h27, h28, h29, h30, h31, h32, h33, h34, (fun _ => rfl), h36, h37, h38, h39, gM, gV, gX, gO⟩
    · have hn36 : b36 = false := by revert hp; cases b36 <;> simp
      have e35 : b35 = true := by revert hp; cases b35 <;> simp
      clear hp
      obtain rfl := (HI.out.2.2.2.2.2.2.2.2.2.2.2.2.2.2.2.2.2.2.2.2.2.2.2.2.2.2.2.2.2.2.2.2.2.2.2.1) e35
      subst hn36
      refine inv_op (o := ⟨some 254, _, _, _, _, _⟩) rfl (fun K' hK' => ?_)
      go_simp
      obtain ⟨h0, h1, h2, h3, h4, h5, h6, h7, h8, h9, h10, h11, h12, h13, h14, h15, h16, h17, h18, h19, h20, h21, h22, h23, h24, h25, h26, h27, h28, h29, h30, h31, h32, h33, h34, h35, h36, h37, h38, h39, gM, gV, gX, gO⟩ := HI.out
      exact hK'.out _ _ ⟨⟨b0, b1, b2, b3, b4, b5, b6, b7, b8, b9, b10, b11, b12, b13, b14, b15, b16, b17, b18, b19, b20, b21, b22, b23, b24, b25, b26, b27, b28, b29, b30, b31, b32, b33, b34, b35, true, b37, b38, b39, s218, s219, s220, s221, s222, s223, s224, s225, s226, s227, s228, s229, s230, s231, s232, s233, s234, s235, s236, s237, s238, s239, s240, s241, s242, s243, s244, s245, s246, s247, s248, s249, s250, s251, s252, _, _, s255, s256, s14⟩, rfl, rfl, h0, h1, h2, h3, h4, h5, h6, h7, h8, h9, h10, h11, h12, h13, h14, h15, h16, h17, h18, h19, h20, h21, h22, h23, h24, h25, h26, h27, h28, h29, h30, h31, h32, h33, h34, h35, (fun _ => rfl), h37, h38, h39, gM, gV, gX, gO⟩
    · have hn37 : b37 = false := by revert hp; cases b37 <;> simp
      have e36 : b36 = true := by revert hp; cases b36 <;> simp
      clear hp
      obtain rfl := (HI.out.2.2.2.2.2.2.2.2.2.2.2.2.2.2.2.2.2.2.2.2.2.2.2.2.2.2.2.2.2.2.2.2.2.2.2.2.1) e36
      subst hn37
      refine inv_op (o := ⟨some 255, _, _, _, _, _⟩) rfl (fun K' hK' => ?_)
      go_simp
      refine (heads_any W).mono ?_
      rintro e w9 ⟨rfl, bn⟩
      obtain ⟨h0, h1, h2, h3, h4, h5, h6, h7, h8, h9, h10, h11, h12, h13, h14, h15, h16, h17, h18, h19, h20, h21, h22, h23, h24, h25, h26, h27, h28, h29, h30, h31, h32, h33, h34, h35, h36, h37, h38, h39, gM, gV, gX, gO⟩ := HI.out
      exact hK'.out _ _ ⟨⟨b0, b1, b2, b3, b4, b5, b6, b7, b8, b9, b10, b11, b12, b13, b14, b15, b16, b17, b18, b19, b20, b21, b22, b23, b24, b25, b26, b27, b28, b29, b30, b31, b32, b33, b34, b35, b36, true, b38, b39, s218, s219, s220, s221, s222, s223, s224, s225, s226, s227, s228, s229, s230, s231, s232, s233, s234, s235, s236, s237, s238, s239, s240, s241, s242, s243, s244, s245, s246, s247, s248, s249, s250, s251, s252, s253, _, _, s256, s14⟩, rfl, rfl, h0, h1, h2, h3, h4, h5, h6, h7, h8, h9, h10, h11, h12, h13, h14, h15, h16, h17, h18, h19, h20, h21, h22, h23, h24, h25, h26, h27, h28, h29, h30, h31, h32, h33, h34, h35, h36, (fun _ => rfl), h38, h39, (row_keep gM bn), (row_keep gV bn), (row_keep gX bn), (gO.trans (bn.mono gO.size))⟩
    · have hn38 : b38 = false := by revert hp; cases b38 <;> simp
      have e36 : b36 = true := by revert hp; cases b36 <;> simp
      have e37 : b37 = true := by revert hp; cases b37 <;> simp
      clear hp
      obtain rfl := (HI.out.2.2.2.2.2.2.2.2.2.2.2.2.2.2.2.2.2.2.2.2.2.2.2.2.2.2.2.2.2.2.2.2.2.2.2.2.1) e36
      obtain rfl := (HI.out.2.2.2.2.2.2.2.2.2.2.2.2.2.2.2.2.2.2.2.2.2.2.2.2.2.2.2.2.2.2.2.2.2.2.2.2.2.1) e37
      subst hn38
      refine inv_op (o := ⟨some 256, _, _, _, _, _⟩) rfl (fun K' hK' => ?_)
      go_simp
      obtain ⟨h0, h1, h2, h3, h4, h5, h6, h7, h8, h9, h10, h11, h12, h13, h14, h15, h16, h17, h18, h19, h20, h21, h22, h23, h24, h25, h26, h27, h28, h29, h30, h31, h32, h33, h34, h35, h36, h37, h38, h39, gM, gV, gX, gO⟩ := HI.out
      exact hK'.out _ _ ⟨⟨b0, b1, b2, b3, b4, b5, b6, b7, b8, b9, b10, b11, b12, b13, b14, b15, b16, b17, b18, b19, b20, b21, b22, b23, b24, b25, b26, b27, b28, b29, b30, b31, b32, b33, b34, b35, b36, b37, true, b39, s218, s219, s220, s221, s222, s223, s224, s225, s226, s227, s228, s229, s230, s231, s232, s233, s234, s235, s236, s237, s238, s239, s240, s241, s242, s243, s244, s245, s246, s247, s248, s249, s250, s251, s252, s253, _, _, _, s14⟩, rfl, rfl, h0, h1, h2, h3, h4, h5, h6, h7, h8, h9, h10, h11, h12, h13, h14, h15, h16, h17, h18, h19, h20, h21, h22, h23, h24, h25, h26, h27, h28, h29, h30, h31, h32, h33, h34, h35, h36, h37, (fun _ => rfl), h39, gM, gV, gX, gO⟩
    · have hn39 : b39 = false := by revert hp; cases b39 <;> simp
      have e38 : b38 = true := by revert hp; cases b38 <;> simp
      clear hp
      obtain rfl := (HI.out.2.2.2.2.2.2.2.2.2.2.2.2.2.2.2.2.2.2.2.2.2.2.2.2.2.2.2.2.2.2.2.2.2.2.2.2.2.2.1) e38
      subst hn39
      refine inv_op (o := ⟨some 14, _, _, _, _, _⟩) rfl (fun K' hK' => ?_)
      go_simp
      obtain ⟨h0, h1, h2, h3, h4, h5, h6, h7, h8, h9, h10, h11, h12, h13, h14, h15, h16, h17, h18, h19, h20, h21, h22, h23, h24, h25, h26, h27, h28, h29, h30, h31, h32, h33, h34, h35, h36, h37, h38, h39, gM, gV, gX, gO⟩ := HI.out
      exact hK'.out _ _ ⟨⟨b0, b1, b2, b3, b4, b5, b6, b7, b8, b9, b10, b11, b12, b13, b14, b15, b16, b17, b18, b19, b20, b21, b22, b23, b24, b25, b26, b27, b28, b29, b30, b31, b32, b33, b34, b35, b36, b37, b38, true, s218, s219, s220, s221, s222, s223, s224, s225, s226, s227, s228, s229, s230, s231, s232, s233, s234, s235, s236, s237, s238, s239, s240, s241, s242, s243, s244, s245, s246, s247, s248, s249, s250, s251, s252, s253, s254, s255, _, _⟩, rfl, rfl, h0, h1, h2, h3, h4, h5, h6, h7, h8, h9, h10, h11, h12, h13, h14, h15, h16, h17, h18, h19, h20, h21, h22, h23, h24, h25, h26, h27, h28, h29, h30, h31, h32, h33, h34, h35, h36, h37, h38, (fun _ => rfl), gM, gV, gX, gO⟩
  case hdone =>
    rintro ⟨b0, b1, b2, b3, b4, b5, b6, b7, b8, b9, b10, b11, b12, b13, b14, b15, b16, b17, b18, b19, b20, b21, b22, b23, b24, b25, b26, b27, b28, b29, b30, b31, b32, b33, b34, b35, b36, b37, b38, b39, s218, s219, s220, s221, s222, s223, s224, s225, s226, s227, s228, s229, s230, s231, s232, s233, s234, s235, s236, s237, s238, s239, s240, s241, s242, s243, s244, s245, s246, s247, s248, s249, s250, s251, s252, s253, s254, s255, s256, s14⟩ W hI hall
    dsimp only at hI hall ⊢
    have HI := Lib.hid hI
    clear hI
    obtain rfl : b0 = true := hall 0 (by decide)
    obtain rfl : b1 = true := hall 1 (by decide)
    obtain rfl : b2 = true := hall 2 (by decide)
    obtain rfl : b3 = true := hall 3 (by decide)
    obtain rfl : b4 = true := hall 4 (by decide)
    obtain rfl : b5 = true := hall 5 (by decide)
    obtain rfl : b6 = true := hall 6 (by decide)
    obtain rfl : b7 = true := hall 7 (by decide)
    obtain rfl : b8 = true := hall 8 (by decide)
    obtain rfl : b9 = true := hall 9 (by decide)
    obtain rfl : b10 = true := hall 10 (by decide)
    obtain rfl : b11 = true := hall 11 (by decide)
    obtain rfl : b12 = true := hall 12 (by decide)
    obtain rfl : b13 = true := hall 13 (by decide)
    obtain rfl : b14 = true := hall 14 (by decide)
    obtain rfl : b15 = true := hall 15 (by decide)
    obtain rfl : b16 = true := hall 16 (by decide)
    obtain rfl : b17 = true := hall 17 (by decide)
    obtain rfl : b18 = true := hall 18 (by decide)
    obtain rfl : b19 = true := hall 19 (by decide)
    obtain rfl : b20 = true := hall 20 (by decide)
    obtain rfl : b21 = true := hall 21 (by decide)
    obtain rfl : b22 = true := hall 22 (by decide)
    obtain rfl : b23 = true := hall 23 (by decide)
    obtain rfl : b24 = true := hall 24 (by decide)
    obtain rfl : b25 = true := hall 25 (by decide)
    obtain rfl : b26 = true := hall 26 (by decide)
    obtain rfl : b27 = true := hall 27 (by decide)
    obtain rfl : b28 = true := hall 28 (by decide)
    obtain rfl : b29 = true := hall 29 (by decide)
    obtain rfl : b30 = true := hall 30 (by decide)
    obtain rfl : b31 = true := hall 31 (by decide)
    obtain rfl : b32 = true := hall 32 (by decide)
    obtain rfl : b33 = true := hall 33 (by decide)
    obtain rfl : b34 = true := hall 34 (by decide)
    obtain rfl : b35 = true := hall 35 (by decide)
    obtain rfl : b36 = true := hall 36 (by decide)
    obtain rfl : b37 = true := hall 37 (by decide)
    obtain rfl : b38 = true := hall 38 (by decide)
    obtain rfl : b39 = true := hall 39 (by decide)
    obtain rfl := (HI.out.2.2.2.2.2.2.2.2.2.2.2.2.2.2.2.2.2.2.2.2.2.2.2.2.2.2.2.2.2.2.2.2.2.2.2.2.2.2.2.1) rfl
    have gO := HI.out.2.2.2.2.2.2.2.2.2.2.2.2.2.2.2.2.2.2.2.2.2.2.2.2.2.2.2.2.2.2.2.2.2.2.2.2.2.2.2.2.2.2.2
    clear HI hall
    have HO := Lib.hid gO
    clear gO
    go_wp2
    go_ret
    exact ⟨rfl, HO.out⟩

theorem ringTells_law (w : World) (v : Value) (l : List UInt8) (hv : IsArg w v l) (b : Int) (_ : -9223372036854775808 ≤ b ∧ b ≤ 9223372036854775807) (z : Int) (_ : -9223372036854775808 ≤ z ∧ z ≤ 9223372036854775807) (i : Int) (_ : -9223372036854775808 ≤ i ∧ i ≤ 9223372036854775807) (da : Nat) (hda : da < 18446744073709551616) (dn : Nat) (hdn : dn < 4294967296) (df : Nat) (hdf : df < 65536) (dx : Nat) (hdx : dx < 65536) (k : Nat) (hk : k < 65536) (u0 : Nat) (hu0 : u0 < 4294967296) (u1 : Nat) (hu1 : u1 < 4294967296) :
    Calls Try.prog 4 #[.agg #[v], .int .i64 b, .int .i64 z, .int .i64 i, .agg #[.int .u64 (da : Nat), .int .u32 (dn : Nat), .int .u16 (df : Nat), .int .u16 (dx : Nat)], .int .u16 (k : Nat), .agg #[.int .u32 (u0 : Nat), .int .u32 (u1 : Nat)]] w fun e w' => e = .returned (.bool true) ∧ Below w.heap.size w w' := by
  by_cases h : l.length ≤ 3000
  · exact ringTells_in w v l hv b z i da hda dn hdn df hdf dx hdx k hk u0 hu0 u1 hu1 h
  · exact ringTells_out w v l hv b z i da dn df dx k u0 u1 h
end Go.Proofs.Ytofeiheomnpggaa
