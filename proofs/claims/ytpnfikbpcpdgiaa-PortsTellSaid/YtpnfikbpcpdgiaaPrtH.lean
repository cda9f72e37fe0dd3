/- What the examples of the law's package come to: true. -/
import Derived.Test.YtpnfikbpcpdgiaaPrtG
import Derived.Lib.SmallJoins
namespace Go.Proofs.Ytpnfikbpcpdgiaa
open Go.RowKit Go.Lib

theorem nil_len : ([] : List UInt8).length ≤ 140737488355328 := by decide
set_option maxHeartbeats 8000000 in
set_option maxRecDepth 100000 in
theorem heads_any (w : World) : Calls Try.prog 7 #[] w fun e w' => e = .returned (.bool true) ∧ Below w.heap.size w w' := by
  have BW := Lib.hid (Below.refl w.heap.size w)
  obtain ⟨x8, h8⟩ : ∃ x : Nat, x = 8 := ⟨_, rfl⟩
  obtain ⟨x5, h5⟩ : ∃ x : Nat, x = 5 := ⟨_, rfl⟩
  obtain ⟨lx, hlx⟩ : ∃ l : List UInt8, l = [97, 98, 99] := ⟨_, rfl⟩
  obtain ⟨ly, hly⟩ : ∃ l : List UInt8, l = [99] := ⟨_, rfl⟩
  obtain ⟨lk, hlk⟩ : ∃ l : List UInt8, l = [97, 98] := ⟨_, rfl⟩
  have E8 := Lib.hid h8
  have E5 := Lib.hid h5
  have EX := Lib.hid hlx
  have EY := Lib.hid hly
  have EK := Lib.hid hlk
  have L8 := Lib.hid (show x8 < 4294967296 by omega)
  clear h8 h5 hlx hly hlk
  go_enter Try.func7, Try.ntmps7
  go_wp2_with fail
  refine (raise_this 0 0 0 (by decide) [] 0 rfl nil_len 3 0 rfl x8 (by rw [E8.out]; decide) w _ BW.out _ (isArg_nil _)).mono ?_
  rintro e w1 ⟨aa, ca, rfl, hd, hb⟩
  replace BW := Lib.hid (BW.out.trans (hb.mono BW.out.size))
  have Da := Lib.hid hd
  clear hd hb
  have hbx : Below (w1).heap.size (w1) ((w1).alloc (.cells #[.int .u32 (x8 : Nat), .int .u32 0, .int .u64 0, .slice aa 0 ca] 26)) := (Below.refl _ _).alloc (Nat.le_refl _) _
  replace BW := Lib.hid (BW.out.trans (hbx.mono BW.out.size))
  replace Da := Lib.hid (Da.out.below hbx)
  have Ra := Lib.hid (heap_alloc_new (w1) (.cells #[.int .u32 (x8 : Nat), .int .u32 0, .int .u64 0, .slice aa 0 ca] 26))
  clear hbx
  go_wp2_with fail
  refine (hear_this x8 0 0 (by decide) [] 0 rfl nil_len 3 true 0 rfl x8 (by rw [E8.out]; decide) w _ BW.out _ (Da.out.arg BW.out)).mono ?_
  rintro e w2 ⟨ab, cb, rfl, hd, hb⟩
  replace BW := Lib.hid (BW.out.trans (hb.mono BW.out.size))
  replace Da := Lib.hid (Da.out.below hb)
  replace Ra := Lib.hid (row_keep Ra.out hb)
  have Db := Lib.hid hd
  clear hd hb
  have hbx : Below (w2).heap.size (w2) ((w2).alloc (.cells #[.int .u32 (x8 : Nat), .int .u32 (x8 : Nat), .int .u64 0, .slice ab 0 cb] 26)) := (Below.refl _ _).alloc (Nat.le_refl _) _
  replace BW := Lib.hid (BW.out.trans (hbx.mono BW.out.size))
  replace Da := Lib.hid (Da.out.below hbx)
  replace Ra := Lib.hid (row_keep Ra.out hbx)
  replace Db := Lib.hid (Db.out.below hbx)
  have Rb := Lib.hid (heap_alloc_new (w2) (.cells #[.int .u32 (x8 : Nat), .int .u32 (x8 : Nat), .int .u64 0, .slice ab 0 cb] 26))
  clear hbx
  go_wp2_with fail
  refine (done_this x8 x8 0 L8.out [] 0 rfl nil_len 3 0 rfl 0 (by rw [E8.out]; decide) w _ BW.out _ (Db.out.arg BW.out)).mono ?_
  rintro e w3 ⟨ac, cc, rfl, hd, hb⟩
  replace BW := Lib.hid (BW.out.trans (hb.mono BW.out.size))
  replace Da := Lib.hid (Da.out.below hb)
  replace Ra := Lib.hid (row_keep Ra.out hb)
  replace Db := Lib.hid (Db.out.below hb)
  replace Rb := Lib.hid (row_keep Rb.out hb)
  have Dc := Lib.hid hd
  clear hd hb
  have hbx : Below (w3).heap.size (w3) ((w3).alloc (.cells #[.int .u32 0, .int .u32 (x8 : Nat), .int .u64 0, .slice ac 0 cc] 26)) := (Below.refl _ _).alloc (Nat.le_refl _) _
  replace BW := Lib.hid (BW.out.trans (hbx.mono BW.out.size))
  replace Da := Lib.hid (Da.out.below hbx)
  replace Ra := Lib.hid (row_keep Ra.out hbx)
  replace Db := Lib.hid (Db.out.below hbx)
  replace Rb := Lib.hid (row_keep Rb.out hbx)
  replace Dc := Lib.hid (Dc.out.below hbx)
  have Rc := Lib.hid (heap_alloc_new (w3) (.cells #[.int .u32 0, .int .u32 (x8 : Nat), .int .u64 0, .slice ac 0 cc] 26))
  clear hbx
  go_wp2_with fail
  refine (tick_this 0 x8 0 [] 0 rfl nil_len 5 0 rfl x5 (by rw [E5.out]; decide) w _ BW.out _ (Dc.out.arg BW.out)).mono ?_
  rintro e w4 ⟨ad, cd, rfl, hd, hb⟩
  replace BW := Lib.hid (BW.out.trans (hb.mono BW.out.size))
  replace Da := Lib.hid (Da.out.below hb)
  replace Ra := Lib.hid (row_keep Ra.out hb)
  replace Db := Lib.hid (Db.out.below hb)
  replace Rb := Lib.hid (row_keep Rb.out hb)
  replace Dc := Lib.hid (Dc.out.below hb)
  replace Rc := Lib.hid (row_keep Rc.out hb)
  have Dd := Lib.hid hd
  clear hd hb
  have hbx : Below (w4).heap.size (w4) ((w4).alloc (.cells #[.int .u32 0, .int .u32 (x8 : Nat), .int .u64 (x5 : Nat), .slice ad 0 cd] 26)) := (Below.refl _ _).alloc (Nat.le_refl _) _
  replace BW := Lib.hid (BW.out.trans (hbx.mono BW.out.size))
  replace Da := Lib.hid (Da.out.below hbx)
  replace Ra := Lib.hid (row_keep Ra.out hbx)
  replace Db := Lib.hid (Db.out.below hbx)
  replace Rb := Lib.hid (row_keep Rb.out hbx)
  replace Dc := Lib.hid (Dc.out.below hbx)
  replace Rc := Lib.hid (row_keep Rc.out hbx)
  replace Dd := Lib.hid (Dd.out.below hbx)
  have Rd := Lib.hid (heap_alloc_new (w4) (.cells #[.int .u32 0, .int .u32 (x8 : Nat), .int .u64 (x5 : Nat), .slice ad 0 cd] 26))
  clear hbx
  go_wp2_with fail
  refine (tick_this 0 x8 x5 [] 0 rfl nil_len 4 8 (by rw [E5.out]; decide) x5 (by rw [E5.out]; decide) w _ BW.out _ (Dd.out.arg BW.out)).mono ?_
  rintro e w5 ⟨au, cu, rfl, hd, hb⟩
  replace BW := Lib.hid (BW.out.trans (hb.mono BW.out.size))
  replace Da := Lib.hid (Da.out.below hb)
  replace Ra := Lib.hid (row_keep Ra.out hb)
  replace Db := Lib.hid (Db.out.below hb)
  replace Rb := Lib.hid (row_keep Rb.out hb)
  replace Dc := Lib.hid (Dc.out.below hb)
  replace Rc := Lib.hid (row_keep Rc.out hb)
  replace Dd := Lib.hid (Dd.out.below hb)
  replace Rd := Lib.hid (row_keep Rd.out hb)
  have Du := Lib.hid hd
  clear hd hb
  have hbx : Below (w5).heap.size (w5) ((w5).alloc (.cells #[.int .u32 0, .int .u32 (x8 : Nat), .int .u64 (x5 : Nat), .slice au 0 cu] 26)) := (Below.refl _ _).alloc (Nat.le_refl _) _
  replace BW := Lib.hid (BW.out.trans (hbx.mono BW.out.size))
  replace Da := Lib.hid (Da.out.below hbx)
  replace Ra := Lib.hid (row_keep Ra.out hbx)
  replace Db := Lib.hid (Db.out.below hbx)
  replace Rb := Lib.hid (row_keep Rb.out hbx)
  replace Dc := Lib.hid (Dc.out.below hbx)
  replace Rc := Lib.hid (row_keep Rc.out hbx)
  replace Dd := Lib.hid (Dd.out.below hbx)
  replace Rd := Lib.hid (row_keep Rd.out hbx)
  replace Du := Lib.hid (Du.out.below hbx)
  have Ru := Lib.hid (heap_alloc_new (w5) (.cells #[.int .u32 0, .int .u32 (x8 : Nat), .int .u64 (x5 : Nat), .slice au 0 cu] 26))
  clear hbx
  obtain ⟨lRd0, lRd1, lRd2, lRd3⟩ := four Rd.out
  have kc := fun (C : Array Value) (n c : Nat) => _root_.Go.Joins.run_convert_bytes_const_at (P := Try.prog) ((w5).alloc (.cells #[.int .u32 0, .int .u32 (x8 : Nat), .int .u64 (x5 : Nat), .slice au 0 cu] 26)) 24 5 C n c (w5.heap.size + 1) (by simp) Try.underlying24 Try.underlying5
  go_wp2_with fail
  clear lRd0 lRd1 lRd2 lRd3
  clear kc
  have hbx : Below ((w5).alloc (.cells #[.int .u32 0, .int .u32 (x8 : Nat), .int .u64 (x5 : Nat), .slice au 0 cu] 26)).heap.size ((w5).alloc (.cells #[.int .u32 0, .int .u32 (x8 : Nat), .int .u64 (x5 : Nat), .slice au 0 cu] 26)) (((w5).alloc (.cells #[.int .u32 0, .int .u32 (x8 : Nat), .int .u64 (x5 : Nat), .slice au 0 cu] 26)).alloc (.cells #[.int .u8 97, .int .u8 98, .int .u8 99] 5 (3, 4))) := (Below.refl _ _).alloc (Nat.le_refl _) _
  replace BW := Lib.hid (BW.out.trans (hbx.mono BW.out.size))
  replace Da := Lib.hid (Da.out.below hbx)
  replace Ra := Lib.hid (row_keep Ra.out hbx)
  replace Db := Lib.hid (Db.out.below hbx)
  replace Rb := Lib.hid (row_keep Rb.out hbx)
  replace Dc := Lib.hid (Dc.out.below hbx)
  replace Rc := Lib.hid (row_keep Rc.out hbx)
  replace Dd := Lib.hid (Dd.out.below hbx)
  replace Rd := Lib.hid (row_keep Rd.out hbx)
  replace Du := Lib.hid (Du.out.below hbx)
  replace Ru := Lib.hid (row_keep Ru.out hbx)
  clear hbx
  have hsz : ((w5).alloc (.cells #[.int .u32 0, .int .u32 (x8 : Nat), .int .u64 (x5 : Nat), .slice au 0 cu] 26)).heap.size = w5.heap.size + 1 := by simp
  have has : IsArg (((w5).alloc (.cells #[.int .u32 0, .int .u32 (x8 : Nat), .int .u64 (x5 : Nat), .slice au 0 cu] 26)).alloc (.cells #[.int .u8 97, .int .u8 98, .int .u8 99] 5 (3, 4))) (.slice (some ⟨((w5).alloc (.cells #[.int .u32 0, .int .u32 (x8 : Nat), .int .u64 (x5 : Nat), .slice au 0 cu] 26)).heap.size, 0, none⟩) 3 3) lx := isArg_new _ _ _ _ lx 3 (by rw [EX.out]; rfl) (by rw [EX.out]; rfl) (by unfold maxLen; decide)
  rw [hsz] at has
  have AS := Lib.hid has
  clear hsz has
  refine (fill_this 0 x8 x5 [] nil_len lx (by rw [EX.out]; decide) 0 (by rw [E5.out, EX.out]; decide) lx (by rw [E5.out, EX.out]; decide) 3 (by rw [EX.out]; decide) w _ BW.out _ (Dd.out.arg BW.out) _ AS.out).mono ?_
  rintro e w6 ⟨ax, cx, rfl, hd, hb⟩
  replace BW := Lib.hid (BW.out.trans (hb.mono BW.out.size))
  replace Da := Lib.hid (Da.out.below hb)
  replace Ra := Lib.hid (row_keep Ra.out hb)
  replace Db := Lib.hid (Db.out.below hb)
  replace Rb := Lib.hid (row_keep Rb.out hb)
  replace Dc := Lib.hid (Dc.out.below hb)
  replace Rc := Lib.hid (row_keep Rc.out hb)
  replace Dd := Lib.hid (Dd.out.below hb)
  replace Rd := Lib.hid (row_keep Rd.out hb)
  replace Du := Lib.hid (Du.out.below hb)
  replace Ru := Lib.hid (row_keep Ru.out hb)
  replace AS := Lib.hid (AS.out.below hb)
  have Dx := Lib.hid hd
  clear hd hb
  have hbx : Below (w6).heap.size (w6) ((w6).alloc (.cells #[.int .u32 0, .int .u32 (x8 : Nat), .int .u64 (x5 : Nat), .slice ax 3 cx] 26)) := (Below.refl _ _).alloc (Nat.le_refl _) _
  replace BW := Lib.hid (BW.out.trans (hbx.mono BW.out.size))
  replace Da := Lib.hid (Da.out.below hbx)
  replace Ra := Lib.hid (row_keep Ra.out hbx)
  replace Db := Lib.hid (Db.out.below hbx)
  replace Rb := Lib.hid (row_keep Rb.out hbx)
  replace Dc := Lib.hid (Dc.out.below hbx)
  replace Rc := Lib.hid (row_keep Rc.out hbx)
  replace Dd := Lib.hid (Dd.out.below hbx)
  replace Rd := Lib.hid (row_keep Rd.out hbx)
  replace Du := Lib.hid (Du.out.below hbx)
  replace Ru := Lib.hid (row_keep Ru.out hbx)
  replace AS := Lib.hid (AS.out.below hbx)
  replace Dx := Lib.hid (Dx.out.below hbx)
  have Rx := Lib.hid (heap_alloc_new (w6) (.cells #[.int .u32 0, .int .u32 (x8 : Nat), .int .u64 (x5 : Nat), .slice ax 3 cx] 26))
  clear hbx
  go_wp2_with fail
  refine (draw_this 0 x8 x5 lx (by rw [EX.out]; decide) 2 0 (by rw [E5.out, EX.out]; decide) ly (by rw [E5.out, EX.out, EY.out]; decide) 1 (by rw [EY.out]; decide) lk (by rw [E5.out, EX.out, EK.out]; decide) 2 (by rw [EK.out]; decide) w _ BW.out _ (Dx.out.arg BW.out)).mono ?_
  rintro e w7 ⟨ay, cy, py, qy, rfl, hd, hx, hb⟩
  replace BW := Lib.hid (BW.out.trans (hb.mono BW.out.size))
  replace Da := Lib.hid (Da.out.below hb)
  replace Ra := Lib.hid (row_keep Ra.out hb)
  replace Db := Lib.hid (Db.out.below hb)
  replace Rb := Lib.hid (row_keep Rb.out hb)
  replace Dc := Lib.hid (Dc.out.below hb)
  replace Rc := Lib.hid (row_keep Rc.out hb)
  replace Dd := Lib.hid (Dd.out.below hb)
  replace Rd := Lib.hid (row_keep Rd.out hb)
  replace Du := Lib.hid (Du.out.below hb)
  replace Ru := Lib.hid (row_keep Ru.out hb)
  replace AS := Lib.hid (AS.out.below hb)
  replace Dx := Lib.hid (Dx.out.below hb)
  replace Rx := Lib.hid (row_keep Rx.out hb)
  have Dy := Lib.hid hd
  have Xy := Lib.hid hx
  clear hd hx hb
  have hbx : Below (w7).heap.size (w7) ((w7).alloc (.cells #[.int .u32 0, .int .u32 (x8 : Nat), .int .u64 (x5 : Nat), .slice ay 1 cy] 26)) := (Below.refl _ _).alloc (Nat.le_refl _) _
  replace BW := Lib.hid (BW.out.trans (hbx.mono BW.out.size))
  replace Da := Lib.hid (Da.out.below hbx)
  replace Ra := Lib.hid (row_keep Ra.out hbx)
  replace Db := Lib.hid (Db.out.below hbx)
  replace Rb := Lib.hid (row_keep Rb.out hbx)
  replace Dc := Lib.hid (Dc.out.below hbx)
  replace Rc := Lib.hid (row_keep Rc.out hbx)
  replace Dd := Lib.hid (Dd.out.below hbx)
  replace Rd := Lib.hid (row_keep Rd.out hbx)
  replace Du := Lib.hid (Du.out.below hbx)
  replace Ru := Lib.hid (row_keep Ru.out hbx)
  replace AS := Lib.hid (AS.out.below hbx)
  replace Dx := Lib.hid (Dx.out.below hbx)
  replace Rx := Lib.hid (row_keep Rx.out hbx)
  replace Dy := Lib.hid (Dy.out.below hbx)
  replace Xy := Lib.hid (Xy.out.below hbx)
  have Ry := Lib.hid (heap_alloc_new (w7) (.cells #[.int .u32 0, .int .u32 (x8 : Nat), .int .u64 (x5 : Nat), .slice ay 1 cy] 26))
  clear hbx
  go_wp2_with fail
  refine (draw_this 0 x8 x5 ly (by rw [EY.out]; decide) 2 7 (by rw [E5.out, EY.out]; decide) ly (by rw [E5.out, EY.out]; decide) 1 (by rw [EY.out]; decide) [] (by rw [E5.out, EY.out]; decide) 0 rfl w _ BW.out _ (Dy.out.arg BW.out)).mono ?_
  rintro e w8 ⟨a_t, ct, pt, qt, rfl, hd, hx, hb⟩
  replace BW := Lib.hid (BW.out.trans (hb.mono BW.out.size))
  replace Da := Lib.hid (Da.out.below hb)
  replace Ra := Lib.hid (row_keep Ra.out hb)
  replace Db := Lib.hid (Db.out.below hb)
  replace Rb := Lib.hid (row_keep Rb.out hb)
  replace Dc := Lib.hid (Dc.out.below hb)
  replace Rc := Lib.hid (row_keep Rc.out hb)
  replace Dd := Lib.hid (Dd.out.below hb)
  replace Rd := Lib.hid (row_keep Rd.out hb)
  replace Du := Lib.hid (Du.out.below hb)
  replace Ru := Lib.hid (row_keep Ru.out hb)
  replace AS := Lib.hid (AS.out.below hb)
  replace Dx := Lib.hid (Dx.out.below hb)
  replace Rx := Lib.hid (row_keep Rx.out hb)
  replace Dy := Lib.hid (Dy.out.below hb)
  replace Xy := Lib.hid (Xy.out.below hb)
  replace Ry := Lib.hid (row_keep Ry.out hb)
  have Dt := Lib.hid hd
  have Xt := Lib.hid hx
  clear hd hx hb
  have hbx : Below (w8).heap.size (w8) ((w8).alloc (.cells #[.int .u32 0, .int .u32 (x8 : Nat), .int .u64 (x5 : Nat), .slice a_t 1 ct] 26)) := (Below.refl _ _).alloc (Nat.le_refl _) _
  replace BW := Lib.hid (BW.out.trans (hbx.mono BW.out.size))
  replace Da := Lib.hid (Da.out.below hbx)
  replace Ra := Lib.hid (row_keep Ra.out hbx)
  replace Db := Lib.hid (Db.out.below hbx)
  replace Rb := Lib.hid (row_keep Rb.out hbx)
  replace Dc := Lib.hid (Dc.out.below hbx)
  replace Rc := Lib.hid (row_keep Rc.out hbx)
  replace Dd := Lib.hid (Dd.out.below hbx)
  replace Rd := Lib.hid (row_keep Rd.out hbx)
  replace Du := Lib.hid (Du.out.below hbx)
  replace Ru := Lib.hid (row_keep Ru.out hbx)
  replace AS := Lib.hid (AS.out.below hbx)
  replace Dx := Lib.hid (Dx.out.below hbx)
  replace Rx := Lib.hid (row_keep Rx.out hbx)
  replace Dy := Lib.hid (Dy.out.below hbx)
  replace Xy := Lib.hid (Xy.out.below hbx)
  replace Ry := Lib.hid (row_keep Ry.out hbx)
  replace Dt := Lib.hid (Dt.out.below hbx)
  replace Xt := Lib.hid (Xt.out.below hbx)
  have Rt := Lib.hid (heap_alloc_new (w8) (.cells #[.int .u32 0, .int .u32 (x8 : Nat), .int .u64 (x5 : Nat), .slice a_t 1 ct] 26))
  clear hbx
  obtain ⟨lRx0, lRx1, lRx2, lRx3⟩ := four Rx.out
  go_wp2_with fail
  refine (raise_this 0 x8 x5 (by decide) lx 3 (by rw [EX.out]; decide) (by rw [EX.out]; decide) 32 2 (by rw [E5.out, EX.out]; decide) 0 (by rw [E5.out, EX.out]; decide) w _ BW.out _ (Dx.out.arg BW.out)).mono ?_
  rintro e w9 ⟨an, cn, rfl, hd, hb⟩
  clear lRx0 lRx1 lRx2 lRx3
  replace BW := Lib.hid (BW.out.trans (hb.mono BW.out.size))
  replace Da := Lib.hid (Da.out.below hb)
  replace Ra := Lib.hid (row_keep Ra.out hb)
  replace Db := Lib.hid (Db.out.below hb)
  replace Rb := Lib.hid (row_keep Rb.out hb)
  replace Dc := Lib.hid (Dc.out.below hb)
  replace Rc := Lib.hid (row_keep Rc.out hb)
  replace Dd := Lib.hid (Dd.out.below hb)
  replace Rd := Lib.hid (row_keep Rd.out hb)
  replace Du := Lib.hid (Du.out.below hb)
  replace Ru := Lib.hid (row_keep Ru.out hb)
  replace AS := Lib.hid (AS.out.below hb)
  replace Dx := Lib.hid (Dx.out.below hb)
  replace Rx := Lib.hid (row_keep Rx.out hb)
  replace Dy := Lib.hid (Dy.out.below hb)
  replace Xy := Lib.hid (Xy.out.below hb)
  replace Ry := Lib.hid (row_keep Ry.out hb)
  replace Dt := Lib.hid (Dt.out.below hb)
  replace Xt := Lib.hid (Xt.out.below hb)
  replace Rt := Lib.hid (row_keep Rt.out hb)
  have Dn := Lib.hid hd
  clear hd hb
  have hbx : Below (w9).heap.size (w9) ((w9).alloc (.cells #[.int .u32 0, .int .u32 (x8 : Nat), .int .u64 (x5 : Nat), .slice an 3 cn] 26)) := (Below.refl _ _).alloc (Nat.le_refl _) _
  replace BW := Lib.hid (BW.out.trans (hbx.mono BW.out.size))
  replace Da := Lib.hid (Da.out.below hbx)
  replace Ra := Lib.hid (row_keep Ra.out hbx)
  replace Db := Lib.hid (Db.out.below hbx)
  replace Rb := Lib.hid (row_keep Rb.out hbx)
  replace Dc := Lib.hid (Dc.out.below hbx)
  replace Rc := Lib.hid (row_keep Rc.out hbx)
  replace Dd := Lib.hid (Dd.out.below hbx)
  replace Rd := Lib.hid (row_keep Rd.out hbx)
  replace Du := Lib.hid (Du.out.below hbx)
  replace Ru := Lib.hid (row_keep Ru.out hbx)
  replace AS := Lib.hid (AS.out.below hbx)
  replace Dx := Lib.hid (Dx.out.below hbx)
  replace Rx := Lib.hid (row_keep Rx.out hbx)
  replace Dy := Lib.hid (Dy.out.below hbx)
  replace Xy := Lib.hid (Xy.out.below hbx)
  replace Ry := Lib.hid (row_keep Ry.out hbx)
  replace Dt := Lib.hid (Dt.out.below hbx)
  replace Xt := Lib.hid (Xt.out.below hbx)
  replace Rt := Lib.hid (row_keep Rt.out hbx)
  replace Dn := Lib.hid (Dn.out.below hbx)
  have Rn := Lib.hid (heap_alloc_new (w9) (.cells #[.int .u32 0, .int .u32 (x8 : Nat), .int .u64 (x5 : Nat), .slice an 3 cn] 26))
  clear hbx
  obtain ⟨lRa0, lRa1, lRa2, lRa3⟩ := four Ra.out
  go_wp2_with fail
  refine (pending_any x8 0 0 L8.out (by decide) _ 0 _ (by unfold maxLen; decide) (-1) (by rw [E8.out]; decide) _).mono ?_
  rintro e w10 ⟨rfl, hb⟩
  clear lRa0 lRa1 lRa2 lRa3
  replace BW := Lib.hid (BW.out.trans (hb.mono BW.out.size))
  replace Da := Lib.hid (Da.out.below hb)
  replace Ra := Lib.hid (row_keep Ra.out hb)
  replace Db := Lib.hid (Db.out.below hb)
  replace Rb := Lib.hid (row_keep Rb.out hb)
  replace Dc := Lib.hid (Dc.out.below hb)
  replace Rc := Lib.hid (row_keep Rc.out hb)
  replace Dd := Lib.hid (Dd.out.below hb)
  replace Rd := Lib.hid (row_keep Rd.out hb)
  replace Du := Lib.hid (Du.out.below hb)
  replace Ru := Lib.hid (row_keep Ru.out hb)
  replace AS := Lib.hid (AS.out.below hb)
  replace Dx := Lib.hid (Dx.out.below hb)
  replace Rx := Lib.hid (row_keep Rx.out hb)
  replace Dy := Lib.hid (Dy.out.below hb)
  replace Xy := Lib.hid (Xy.out.below hb)
  replace Ry := Lib.hid (row_keep Ry.out hb)
  replace Dt := Lib.hid (Dt.out.below hb)
  replace Xt := Lib.hid (Xt.out.below hb)
  replace Rt := Lib.hid (row_keep Rt.out hb)
  replace Dn := Lib.hid (Dn.out.below hb)
  replace Rn := Lib.hid (row_keep Rn.out hb)
  clear hb
  obtain ⟨lRb0, lRb1, lRb2, lRb3⟩ := four Rb.out
  go_wp2_with fail
  refine (pending_any x8 x8 0 L8.out L8.out _ 0 _ (by unfold maxLen; decide) 3 (by rw [E8.out]; decide) _).mono ?_
  rintro e w11 ⟨rfl, hb⟩
  clear lRb0 lRb1 lRb2 lRb3
  replace BW := Lib.hid (BW.out.trans (hb.mono BW.out.size))
  replace Da := Lib.hid (Da.out.below hb)
  replace Ra := Lib.hid (row_keep Ra.out hb)
  replace Db := Lib.hid (Db.out.below hb)
  replace Rb := Lib.hid (row_keep Rb.out hb)
  replace Dc := Lib.hid (Dc.out.below hb)
  replace Rc := Lib.hid (row_keep Rc.out hb)
  replace Dd := Lib.hid (Dd.out.below hb)
  replace Rd := Lib.hid (row_keep Rd.out hb)
  replace Du := Lib.hid (Du.out.below hb)
  replace Ru := Lib.hid (row_keep Ru.out hb)
  replace AS := Lib.hid (AS.out.below hb)
  replace Dx := Lib.hid (Dx.out.below hb)
  replace Rx := Lib.hid (row_keep Rx.out hb)
  replace Dy := Lib.hid (Dy.out.below hb)
  replace Xy := Lib.hid (Xy.out.below hb)
  replace Ry := Lib.hid (row_keep Ry.out hb)
  replace Dt := Lib.hid (Dt.out.below hb)
  replace Xt := Lib.hid (Xt.out.below hb)
  replace Rt := Lib.hid (row_keep Rt.out hb)
  replace Dn := Lib.hid (Dn.out.below hb)
  replace Rn := Lib.hid (row_keep Rn.out hb)
  clear hb
  obtain ⟨lRc0, lRc1, lRc2, lRc3⟩ := four Rc.out
  go_wp2_with fail
  refine (pending_any 0 x8 0 (by decide) L8.out _ 0 _ (by unfold maxLen; decide) (-1) (by rw [E8.out]; decide) _).mono ?_
  rintro e w12 ⟨rfl, hb⟩
  clear lRc0 lRc1 lRc2 lRc3
  replace BW := Lib.hid (BW.out.trans (hb.mono BW.out.size))
  replace Da := Lib.hid (Da.out.below hb)
  replace Ra := Lib.hid (row_keep Ra.out hb)
  replace Db := Lib.hid (Db.out.below hb)
  replace Rb := Lib.hid (row_keep Rb.out hb)
  replace Dc := Lib.hid (Dc.out.below hb)
  replace Rc := Lib.hid (row_keep Rc.out hb)
  replace Dd := Lib.hid (Dd.out.below hb)
  replace Rd := Lib.hid (row_keep Rd.out hb)
  replace Du := Lib.hid (Du.out.below hb)
  replace Ru := Lib.hid (row_keep Ru.out hb)
  replace AS := Lib.hid (AS.out.below hb)
  replace Dx := Lib.hid (Dx.out.below hb)
  replace Rx := Lib.hid (row_keep Rx.out hb)
  replace Dy := Lib.hid (Dy.out.below hb)
  replace Xy := Lib.hid (Xy.out.below hb)
  replace Ry := Lib.hid (row_keep Ry.out hb)
  replace Dt := Lib.hid (Dt.out.below hb)
  replace Xt := Lib.hid (Xt.out.below hb)
  replace Rt := Lib.hid (row_keep Rt.out hb)
  replace Dn := Lib.hid (Dn.out.below hb)
  replace Rn := Lib.hid (row_keep Rn.out hb)
  clear hb
  have hcv := conv_bytes (Xy.out.arg BW.out).1
  rw [EK.out] at hcv
  replace hcv : _ = Result.ok (Value.string ⟨#[97, 98]⟩) _ := hcv
  obtain ⟨lRy0, lRy1, lRy2, lRy3⟩ := four Ry.out
  go_wp2_with fail
  refine (check_any 0 x8 x5 _ 1 _ (by unfold maxLen; decide) true (by rw [E5.out]; decide) _).mono ?_
  rintro e w13 ⟨rfl, hb⟩
  clear lRy0 lRy1 lRy2 lRy3
  replace BW := Lib.hid (BW.out.trans (hb.mono BW.out.size))
  replace Da := Lib.hid (Da.out.below hb)
  replace Ra := Lib.hid (row_keep Ra.out hb)
  replace Db := Lib.hid (Db.out.below hb)
  replace Rb := Lib.hid (row_keep Rb.out hb)
  replace Dc := Lib.hid (Dc.out.below hb)
  replace Rc := Lib.hid (row_keep Rc.out hb)
  replace Dd := Lib.hid (Dd.out.below hb)
  replace Rd := Lib.hid (row_keep Rd.out hb)
  replace Du := Lib.hid (Du.out.below hb)
  replace Ru := Lib.hid (row_keep Ru.out hb)
  replace AS := Lib.hid (AS.out.below hb)
  replace Dx := Lib.hid (Dx.out.below hb)
  replace Rx := Lib.hid (row_keep Rx.out hb)
  replace Dy := Lib.hid (Dy.out.below hb)
  replace Xy := Lib.hid (Xy.out.below hb)
  replace Ry := Lib.hid (row_keep Ry.out hb)
  replace Dt := Lib.hid (Dt.out.below hb)
  replace Xt := Lib.hid (Xt.out.below hb)
  replace Rt := Lib.hid (row_keep Rt.out hb)
  replace Dn := Lib.hid (Dn.out.below hb)
  replace Rn := Lib.hid (row_keep Rn.out hb)
  clear hb
  clear hcv
  obtain ⟨lRy0, lRy1, lRy2, lRy3⟩ := four Ry.out
  go_wp2
  go_ret
  exact ⟨rfl, BW.out⟩
end Go.Proofs.Ytpnfikbpcpdgiaa
