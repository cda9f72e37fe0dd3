import Derived.StillTailTactics
import Derived.Deep.Cut
import Derived.OpenShut
import Derived.Deep.Matrix
import Derived.Deep.Slices
import Derived.Deep.Grids
import Derived.Test.YtnmekbbnglkmcaaGreatG04
namespace Go.Proofs.YtnmekbbnglkmcaaGreat
open Go.RowKit Go.Lib
set_option maxHeartbeats 4000000 in
set_option maxRecDepth 100000 in
theorem refSame_this (q : QQ) (F C F2 C2 : Value) (D D2 : List Value) (w : World) (h : IsQ 0 w F C q D) (h2 : IsQ 0 w F2 C2 q D2) (hf : q.free.length ≤ 1000) (hc : q.chains.length ≤ 1000) (hd : ∀ c ∈ q.chains, c.ds.length ≤ 1000) (b z : Int) (A L : Nat) :
 Calls Tryz.prog 10 #[.agg #[.int .i64 b, .int .i64 z, F, .int .u16 (A : Nat), .int .u16 (L : Nat), C], .agg #[.int .i64 b, .int .i64 z, F2, .int .u16 (A : Nat), .int .u16 (L : Nat), C2]] w fun e w' => e = .returned (.bool true) ∧ Below w.heap.size w w' := by
 obtain ⟨fa, fn, fc, ca, cn, cc, rfl, rfl, hfn, hcn, k1, k2, k3, k4⟩ := h.shape
 obtain ⟨ga, gn, gc, da, dn, dc, rfl, rfl, hgn, hdn, j1, j2, j3, j4⟩ := h2.shape
 obtain rfl : gn = fn := by omega
 obtain rfl : dn = cn := by omega
 obtain ⟨bx1, hbx1⟩ : ∃ x, x = Obj.cells #[.int .i64 b, .int .i64 z, .slice fa gn fc, .int .u16 (A : Nat), .int .u16 (L : Nat), .slice ca dn cc] 30 (0, 0) := ⟨_, rfl⟩
 obtain ⟨bx2, hbx2⟩ : ∃ x, x = Obj.cells #[.int .i64 b, .int .i64 z, .slice ga gn gc, .int .u16 (A : Nat), .int .u16 (L : Nat), .slice da dn dc] 30 (0, 0) := ⟨_, rfl⟩
 have b1 : Below w.heap.size w (w.alloc bx1) := (Below.refl _ _).alloc (Nat.le_refl _) _
 have b2 : Below (w.alloc bx1).heap.size (w.alloc bx1) ((w.alloc bx1).alloc bx2) := (Below.refl _ _).alloc (Nat.le_refl _) _
 have r1 : ((w.alloc bx1).alloc bx2).heap[w.heap.size]? = some bx1 := row_new (heap_alloc_new w bx1) bx2
 have r2 : ((w.alloc bx1).alloc bx2).heap[w.heap.size + 1]? = some bx2 := by simpa using heap_alloc_new (w.alloc bx1) bx2
 have bb : Below w.heap.size w ((w.alloc bx1).alloc bx2) := b1.trans (b2.mono b1.size)
 have HI := Lib.hid (h.below bb)
 have HJ := Lib.hid (h2.below bb)
 rw [hbx1] at r1
 rw [hbx2] at r2
 have R1 := Lib.hid r1
 have R2 := Lib.hid r2
 have BB := Lib.hid bb
 have HC := Lib.hid hc
 have HF := Lib.hid hf
 have HD := Lib.hid hd
 have HN := Lib.hid hcn
 have hcn9 : dn ≤ 1000 := by omega
 subst hbx1
 subst hbx2
 clear r1 r2 bb b1 b2 h h2 hf hc hd hfn hcn hgn hdn k1 k2 k3 k4 j1 j2 j3 j4
 obtain ⟨⟨x0, x1, x2, x3, x4, x5⟩, _⟩ := cells_six R1.out
 obtain ⟨⟨y0, y1, y2, y3, y4, y5⟩, _⟩ := cells_six R2.out
 go_enter Tryz.func10, Tryz.ntmps10
 go_wp2_with fail
 refine (ints_any 0 0 _ _ _ _ HI.out.free HJ.out.free HF.out).mono ?_
 rintro e w1 ⟨rfl, hb⟩
 have R1' := Lib.hid (row_keep R1.out hb)
 have R2' := Lib.hid (row_keep R2.out hb)
 have HI' := Lib.hid (HI.out.below hb)
 have HJ' := Lib.hid (HJ.out.below hb)
 have BW := Lib.hid (BB.out.trans (hb.mono BB.out.size))
 clear x0 x1 x2 x3 x4 x5 y0 y1 y2 y3 y4 y5 hb R1 R2 HI HJ BB
 obtain ⟨⟨x0, x1, x2, x3, x4, x5⟩, _⟩ := cells_six R1'.out
 obtain ⟨⟨y0, y1, y2, y3, y4, y5⟩, _⟩ := cells_six R2'.out
 go_wp2
 clear x0 x1 x2 x3 x4 x5 y0 y1 y2 y3 y4 y5
 go_loopw [5] (fun i wr => ∃ j : Nat, j ≤ dn ∧ i = .int .i64 (j : Nat) ∧ Below w1.heap.size w1 wr) (fun i _ => dn - (intOf i).toNat)
 case atStart => exact ⟨0, Nat.zero_le _, rfl, Below.refl _ _⟩
 case round =>
  obtain ⟨j, hj, rfl, hbw⟩ := hrel
  have HB := Lib.hid hbw
  clear hbw
  obtain ⟨⟨x0, x1, x2, x3, x4, x5⟩, _⟩ := cells_six (row_keep R1'.out HB.out)
  obtain ⟨⟨y0, y1, y2, y3, y4, y5⟩, _⟩ := cells_six (row_keep R2'.out HB.out)
  rcases Nat.lt_or_ge j dn with hlt | hge
  · have hjl : j < q.chains.length := by rw [← HN.out]; exact hlt
    obtain ⟨g, k1, rfl, k2⟩ := HI'.out.chains.lie (by omega)
    obtain ⟨g2, k3, rfl, k4⟩ := HJ'.out.chains.lie (by omega)
    clear k2 k4
    obtain ⟨c, d, e1, _, c0, c1, c2, hd1⟩ := (HI'.out.below HB.out).chains.at j hjl
    obtain ⟨c', d', e2, _, p0, p1, p2, hd2⟩ := (HJ'.out.below HB.out).chains.at j hjl
    rw [e1] at e2
    injection e2 with e2
    subst e2
    have HL := Lib.hid (HD.out c (List.mem_of_getElem? e1))
    obtain ⟨s1, s2, rfl, v1, v1'⟩ := hd1.shape
    obtain ⟨s3, s4, rfl, v3, v3'⟩ := hd2.shape
    have H1 := Lib.hid hd1
    have H2 := Lib.hid hd2
    obtain ⟨hh, ds, rm⟩ := c
    simp only at c0 c2 p0 p2 c1 p1 HL H1 H2
    obtain ⟨dl, hdl⟩ : ∃ x, ds.length = x := ⟨_, rfl⟩
    rw [hdl] at H1 H2 c1 p1
    clear e1 hd1 hd2 hjl hdl v1 v1' v3 v3'
    go_wp2_with fail
    go_still_tail 41, (by kernel_rfl)
    obtain ⟨wd, hwd⟩ : ∃ x, x = wr.drew := ⟨_, rfl⟩
    have hdr : Below wr.heap.size wr wd := by rw [hwd]; exact (Below.refl _ _).drew
    change wpList _ _ _ _ _ wr.drew
    rw [← hwd]
    have H1d := Lib.hid (H1.out.below hdr)
    have H2d := Lib.hid (H2.out.below hdr)
    have HBd := Lib.hid (HB.out.trans (hdr.mono HB.out.size))
    clear hwd hdr x0 x1 x2 x3 x4 x5 y0 y1 y2 y3 y4 y5 c0 c1 c2 p0 p1 p2 H1 H2
    go_wp2_with fail
    refine (ints_any 0 0 _ _ ds _ H1d.out H2d.out HL.out).mono ?_
    rintro e w2 ⟨rfl, hb⟩
    go_wp2
    go_roundw
    case rel => exact ⟨j + 1, by omega, by go_num, HBd.out.trans (hb.mono HBd.out.size)⟩
    case measure => simp [intOf]; omega
  · obtain rfl : dn = j := by omega
    go_wp2
    go_ret
    exact ⟨rfl, BW.out.trans (HB.out.mono BW.out.size)⟩
end Go.Proofs.YtnmekbbnglkmcaaGreat
namespace Go.Proofs.YtnmekbbnglkmcaaGreat
open Go.RowKit Go.Lib
structure HC (W : World) (fa : Option Addr) (fn fc : Nat) (xa : Option Addr) (xn xc av : Nat) (q : QQ) : Prop where
 own : ∃ D, IsQ 0 W (.slice fa fn fc) (.slice xa xn xc) q D
 good : GoodQ q 16
 base : q.base = 0
 av : q.avail = av
 la : q.last = 0
section
variable {W W' : World} {fa xa : Option Addr} {fn fc xn xc av : Nat} {q : QQ}
theorem HC.below (h : HC W fa fn fc xa xn xc av q) (hb : Below W.heap.size W W') : HC W' fa fn fc xa xn xc av q :=
 ⟨by obtain ⟨D, hD⟩ := h.own; exact ⟨D, hD.below hb⟩, h.good, h.base, h.av, h.la⟩
theorem HC.stay {g : Nat} {cs : Array Value} {t : TypeId} {fr : Nat × Nat} (h : HC W fa fn fc xa xn xc av q) (hg : W.heap[g]? = some (.cells cs t fr)) (h1 : (t : Nat) ≠ 3) (h2 : (t : Nat) ≠ 76) (j : Nat) (u : Value) : HC (W.setCell ⟨g, j, none⟩ u) fa fn fc xa xn xc av q :=
 ⟨by obtain ⟨D, hD⟩ := h.own; exact ⟨D, hD.stay hg h1 h2 j u⟩, h.good, h.base, h.av, h.la⟩
theorem HC.drew (h : HC W fa fn fc xa xn xc av q) : HC W.drew fa fn fc xa xn xc av q :=
 ⟨by obtain ⟨D, hD⟩ := h.own; exact ⟨D, hD.drew⟩, h.good, h.base, h.av, h.la⟩
theorem HC.few (h : HC W fa fn fc xa xn xc av q) : fn = q.free.length ∧ xn = q.chains.length ∧ xn + fn ≤ 16 ∧ av < 65536 := by
 obtain ⟨D, hD⟩ := h.own
 obtain ⟨a, n, c, a', n', c', e1, e2, e3, e4, _⟩ := hD.shape
 cases e1
 cases e2
 have h1 := h.good.few
 have h2 := h.good.av
 rw [h.av] at h2
 exact ⟨e3, e4, by omega, h2⟩
theorem hc_of {F C : Value} {D : List Value} (h : IsQ 0 W F C q D) (hg : GoodQ q 16) (hb : q.base = 0) (h1 : q.avail = av) (h2 : q.last = 0) : ∃ fa fn fc xa xn xc, F = .slice fa fn fc ∧ C = .slice xa xn xc ∧ HC W fa fn fc xa xn xc av q := by
 obtain ⟨a, n, c, a', n', c', e1, e2, _⟩ := h.shape
 subst e1
 subst e2
 exact ⟨a, n, c, a', n', c', rfl, rfl, ⟨D, h⟩, hg, hb, h1, h2⟩
end
theorem ok16 (l : List UInt8) (h : l.length = 1000) : RingOk l.length 0 16 := ⟨by omega, .inr (.inr (.inr (.inr rfl))), by rw [h]; decide⟩
theorem run_zeros1000 (W : World) : (Instr.makeSlice 24 (.int .i64 1000) (.int .i64 1000)).run Tryz.prog W = .ok (.slice (some ⟨W.heap.size, 0, none⟩) 1000 1000) (W.alloc (.cells (madeCells #[.int .u8 0] 1000) 5)) := run_zerosK 1000 (by decide) W
def In1000 (bs : List QB) : Prop := ∀ x ∈ bs, InB 1000 x
theorem in_nil : In1000 [] := fun x hx => by cases hx
theorem in_snoc {bs : List QB} (h : In1000 bs) {k y : Nat} (hk : k < 4) (hy : y ≤ 15) (b : Bool) : In1000 (bs ++ [((500 + 8 * (k : Nat) : Int), (1 + (y : Nat) : Int), b)]) := by
 intro x hx
 rcases List.mem_append.1 hx with hx | hx
 · exact h x hx
 · rw [List.mem_singleton] at hx
   subst hx
   exact ⟨by show (0 : Int) ≤ 500 + 8 * (k : Nat); omega, by show (1 : Int) ≤ 1 + (y : Nat); omega, by show (500 + 8 * (k : Nat) : Int) + (1 + (y : Nat)) ≤ ((1000 : Nat) : Int); omega⟩
theorem in_room {bs : List QB} (h : In1000 bs) (hl : bs.length ≤ 16) : 0 ≤ roomOf bs ∧ roomOf bs ≤ 2147483647 := by
 have h1 := roomOf_range (l := bs) (m := 1000) (fun b hb => by obtain ⟨h1, h2, h3⟩ := h b hb; omega) (by decide)
 omega
theorem new16_this (v : Value) (l : List UInt8) (w : World) (hv : OwnB 0 w v l) (hl : l.length = 1000) :
 Calls Tryz.prog 7 #[.agg #[v], .int .i64 0, .int .i64 16] w fun e w' => ∃ ra rc fa fc xa xc G q, e = .returned (.tuple #[.agg #[.slice ra 1000 rc], .agg #[.int .i64 0, .int .i64 16, .slice fa 16 fc, .int .u16 0, .int .u16 0, .slice xa 0 xc], .int .i64 0]) ∧ OwnB 0 w' (.slice ra 1000 rc) G ∧ G.length = 1000 ∧ HC w' fa 16 fc xa 0 xc 0 q ∧ Below w.heap.size w w' := by
 refine (new_this v l 0 16 w hv (ok16 l hl) 0 16 1000 rfl rfl hl).mono ?_
 rintro e w' ⟨ra, rc, F, C, rfl, h1, h2, h3⟩
 have hg : GoodQ (newQ 0 16) 16 := newQ_good (.inr (.inr (.inr (.inr rfl)))) (by decide)
 obtain ⟨fa, fn, fc, xa, xn, xc, rfl, rfl, hh⟩ := hc_of h2 hg rfl rfl rfl
 have hf := hh.few
 have e1 : fn = 16 := hf.1.trans (by show (upN 16).length = 16; exact upN_length 16)
 have e2 : xn = 0 := hf.2.1.trans rfl
 subst e1
 subst e2
 exact ⟨ra, rc, fa, fc, xa, xc, _, _, rfl, h1, (zeroM_length (ok16 l hl)).trans hl, hh, h3⟩
structure Found (G : List UInt8) (bs : List QB) (av av2 : Nat) (H : Int) : Prop where
 len : G.length = 1000
 lt : av < 65536
 two : av2 = (av + 1) % 65536
 has : ∃ (ds : List Int) (hd : Nat), Chained G 0 ds bs ∧ (∀ d ∈ ds, 0 ≤ d ∧ d < ((16 : Nat) : Int)) ∧ ds.length = bs.length ∧ (hd : Int) = H ∧ (hd : Int) = ds.getD 0 0 ∧ numAt G (0 + 16 * 16 + 2) 2 = av2 ∧ numAt G (0 + 16 * 16 + 4 + 2 * (av % 16)) 2 = hd
theorem add16_found (q : QQ) (l : List UInt8) (bs : List QB) (hl : l.length = 1000) (hg : GoodQ q 16) (hi : In1000 bs) (h1 : 1 ≤ bs.length) (h2 : bs.length ≤ q.free.length) : Found (addM l 0 16 q bs) bs q.avail ((q.avail + 1) % 65536) (q.free.getD 0 0) := by
 have hok := ok16 l hl
 have hds : ∀ d ∈ q.free.take bs.length, 0 ≤ d ∧ d < ((16 : Nat) : Int) := fun d hd => hg.freeIn (List.mem_of_mem_take hd)
 have hdl : (q.free.take bs.length).length = bs.length := by rw [List.length_take]; omega
 have hll : (layK l 0 (q.free.take bs.length) bs bs.length).length = 1000 := by rw [layK_length hok hds bs.length (by omega), hl]
 have hd0 := getD_in hds (show 0 < (q.free.take bs.length).length by omega)
 have e0 : (q.free.take bs.length).getD 0 0 = q.free.getD 0 0 := by
  rw [List.getD_eq_getElem?_getD, List.getD_eq_getElem?_getD, List.getElem?_take, if_pos (by omega)]
 have hx : ∀ x ∈ bs, InB l.length x := by rw [hl]; exact hi
 rw [e0] at hd0
 have ht : ((q.free.getD 0 0).toNat : Int) = q.free.getD 0 0 := Int.toNat_of_nonneg hd0.1
 refine ⟨(addM_length hok hg h2).trans hl, hg.av, rfl, q.free.take bs.length, (q.free.getD 0 0).toNat, addM_chained hok hg h2 hx, hds, hdl, ht, ht.trans e0.symm, ?_, ?_⟩
 · rw [addM, offerD_index _ _ (ok16 _ hll)]
 · rw [addM, offerD_entry q.avail q.avail _ rfl (by omega) (ok16 _ hll)]
theorem add16_this (fa xa : Option Addr) (fn fc xn xc av m : Nat) (q : QQ) (v bv : Value) (l : List UInt8) (bs : List QB) (w : World) (hv : OwnB 0 w v l) (hq : HC w fa fn fc xa xn xc av q) (hbf : OwnBf 0 w bv bs) (hl : l.length = 1000) (hi : In1000 bs) (hm : bs.length = m) (h1 : 1 ≤ m) (h4 : m ≤ 4) (hfn : m ≤ fn) :
 Calls Tryz.prog 9 #[.agg #[v], .agg #[.int .i64 0, .int .i64 16, .slice fa fn fc, .int .u16 (av : Nat), .int .u16 0, .slice xa xn xc], bv] w fun e w' => ∃ ra rc fa2 fn2 fc2 xa2 xn2 xc2 av2 q2 H G, e = .returned (.tuple #[.agg #[.slice ra 1000 rc], .agg #[.int .i64 0, .int .i64 16, .slice fa2 fn2 fc2, .int .u16 (av2 : Nat), .int .u16 0, .slice xa2 xn2 xc2], .int .i64 H, .int .i64 0]) ∧ OwnB 0 w' (.slice ra 1000 rc) G ∧ HC w' fa2 fn2 fc2 xa2 xn2 xc2 av2 q2 ∧ Found G bs av av2 H ∧ fn2 + m = fn ∧ Below w.heap.size w w' := by
 subst hm
 obtain ⟨D, hD⟩ := hq.own
 have hf := hq.few
 have hx : ∀ x ∈ bs, InB l.length x := by rw [hl]; exact hi
 have hb1 : bs.length ≤ q.free.length := by omega
 refine (add_this q 16 0 _ _ v bv D l bs w hv hD hbf hq.good hq.base (ok16 l hl) h1 hb1 (by omega) hx 0 16 (av : Nat) 0 (((q.avail + 1) % 65536 : Nat) : Int) (q.free.getD 0 0) 1000 hq.base hq.good.size (by rw [hq.av]) (by rw [hq.la]; rfl) rfl rfl hl).mono ?_
 rintro e w' ⟨ra, rc, F, C, D2, rfl, h2, h3, h5⟩
 obtain ⟨fa2, fn2, fc2, xa2, xn2, xc2, rfl, rfl, hh⟩ := hc_of h3 (addQ_good hq.good h1 hb1 (in_room hi (by omega))) hq.base rfl hq.la
 have hf2 := hh.few
 have hfd := add16_found q l bs hl hq.good hi h1 hb1
 rw [hq.av] at hfd
 refine ⟨ra, rc, fa2, fn2, fc2, xa2, xn2, xc2, (q.avail + 1) % 65536, _, _, _, rfl, h2, hh, by rw [hq.av]; exact hfd, ?_, h5⟩
 have : fn2 = q.free.length - bs.length := by rw [hf2.1]; show (q.free.drop bs.length).length = _; simp
 omega
theorem full16_this (fa xa : Option Addr) (fn fc xn xc av m : Nat) (q : QQ) (v bv : Value) (l : List UInt8) (bs : List QB) (w : World) (hv : OwnB 0 w v l) (hq : HC w fa fn fc xa xn xc av q) (hbf : OwnBf 0 w bv bs) (hl : l.length = 1000) (hi : In1000 bs) (hm : bs.length = m) (h1 : 1 ≤ m) (h4 : m ≤ 4) (hfn : fn < m) :
 Calls Tryz.prog 9 #[.agg #[v], .agg #[.int .i64 0, .int .i64 16, .slice fa fn fc, .int .u16 (av : Nat), .int .u16 0, .slice xa xn xc], bv] w fun e w' => ∃ ra rc fa2 fn2 fc2 xa2 xn2 xc2, e = .returned (.tuple #[.agg #[.slice ra 1000 rc], .agg #[.int .i64 0, .int .i64 16, .slice fa2 fn2 fc2, .int .u16 (av : Nat), .int .u16 0, .slice xa2 xn2 xc2], .int .i64 0, .int .i64 4]) ∧ HC w' fa2 fn2 fc2 xa2 xn2 xc2 av q ∧ Below w.heap.size w w' := by
 subst hm
 obtain ⟨D, hD⟩ := hq.own
 have hf := hq.few
 have hx : ∀ x ∈ bs, InB l.length x := by rw [hl]; exact hi
 refine (full_this q 16 0 _ _ v bv D l bs w hv hD hbf hq.good hq.base (ok16 l hl) h1 (by omega) (by omega) hx 0 16 (av : Nat) 0 1000 hq.base hq.good.size (by rw [hq.av]) (by rw [hq.la]; rfl) hl).mono ?_
 rintro e w' ⟨ra, rc, F, C, D2, rfl, _, h3, h5⟩
 obtain ⟨fa2, fn2, fc2, xa2, xn2, xc2, rfl, rfl, hh⟩ := hc_of h3 hq.good hq.base hq.av hq.la
 exact ⟨ra, rc, fa2, fn2, fc2, xa2, xn2, xc2, rfl, hh, h5⟩
theorem next16_this (v : Value) (l : List UInt8) (bs : List QB) (av av2 m : Nat) (H : Int) (w : World) (hv : OwnB 0 w v l) (hf : Found l bs av av2 H) (hi : In1000 bs) (hm : bs.length = m) (h1 : 1 ≤ m) (h4 : m ≤ 4) :
 Calls Tryz.prog 11 #[.agg #[v], .agg #[.int .i64 0, .int .i64 16, .int .u16 (av : Nat), .int .u16 0]] w fun e w' => ∃ ra rc, e = .returned (.tuple #[.agg #[.int .i64 0, .int .i64 16, .int .u16 (av2 : Nat), .int .u16 0], .int .i64 H, .slice ra m rc, .int .i64 0]) ∧ OwnBf 0 w' (.slice ra m rc) bs ∧ Below w.heap.size w w' := by
 obtain ⟨ds, hd, k1, k2, k3, k4, k5, k6, k7⟩ := hf.has
 have hlt := hf.lt
 have h2 := hf.two
 exact next_this 16 0 av 0 av2 hd v l ds bs w hv (ok16 l hf.len) k1 k2 k3 (by omega) (by omega) (by rw [hf.len]; exact hi) k5 hlt k6 (by omega) k7 0 16 (av : Nat) 0 (av2 : Nat) H m rfl rfl rfl rfl (by rw [h2]) k4 hm
theorem same16_this (fa xa : Option Addr) (fn fc xn xc av : Nat) (q : QQ) (fa2 xa2 : Option Addr) (fn2 fc2 xn2 xc2 : Nat) (w : World) (hq : HC w fa fn fc xa xn xc av q) (hq2 : HC w fa2 fn2 fc2 xa2 xn2 xc2 av q) :
 Calls Tryz.prog 10 #[.agg #[.int .i64 0, .int .i64 16, .slice fa fn fc, .int .u16 (av : Nat), .int .u16 0, .slice xa xn xc], .agg #[.int .i64 0, .int .i64 16, .slice fa2 fn2 fc2, .int .u16 (av : Nat), .int .u16 0, .slice xa2 xn2 xc2]] w fun e w' => e = .returned (.bool true) ∧ Below w.heap.size w w' := by
 obtain ⟨D, hD⟩ := hq.own
 obtain ⟨D2, hD2⟩ := hq2.own
 have hf := hq.good.few
 exact refSame_this q _ _ _ _ D D2 w hD hD2 (by omega) (by omega) (fun c hc => by have := hf.2.2.2.2 c hc; omega) 0 16 av 0
theorem grew_keep {B B2 n m s n2 : Nat} {w w' : World} {v v' v2 : Value} {e : TypeId} {xs ys zs : List Value} (hg : Grew B w w' v v' 39 3 n xs) (hv : w.ownsRow B 39 3 v m ys) (ho : w.ownsRow B2 e s v2 n2 zs) (hne : ((e : Nat) == 39) = false) : w'.ownsRow B2 e s v2 n2 zs :=
 (Spare.grew (T := fun t => t == 39) hg hv (by decide)).owns ho hne
theorem HC.grew {B n m : Nat} {w w' : World} {v v' : Value} {xs ys : List Value} {fa xa : Option Addr} {fn fc xn xc av : Nat} {q : QQ} (h : HC w fa fn fc xa xn xc av q) (hg : Grew B w w' v v' 39 3 n xs) (hv : w.ownsRow B 39 3 v m ys) : HC w' fa fn fc xa xn xc av q :=
 ⟨by obtain ⟨D, hD⟩ := h.own; exact ⟨D, grew_keep hg hv hD.free (by decide), ⟨hD.chains.len, grew_keep hg hv hD.chains.row (by decide), fun i d c hd hc => grew_keep hg hv (hD.chains.ds i d c hd hc) (by decide)⟩, hD.apart⟩, h.good, h.base, h.av, h.la⟩
theorem OwnB.grew {B B2 n m : Nat} {w w' : World} {v v' v2 : Value} {xs ys : List Value} {l : List UInt8} (h : OwnB B2 w v2 l) (hg : Grew B w w' v v' 39 3 n xs) (hv : w.ownsRow B 39 3 v m ys) : OwnB B2 w' v2 l := grew_keep hg hv h (by decide)
end Go.Proofs.YtnmekbbnglkmcaaGreat
namespace Go.Proofs.YtnmekbbnglkmcaaGreat
open Go.RowKit Go.Lib
structure QueCaB where
 (b0 b1 b2 b3 b4 b5 b6 b7 b8 b9 b10 b11 b12 b13 b14 b15 b16 b17 b18 b19 b20 b21 b22 b23 : Bool)
 (s57 s58 s59 s60 s61 s62 s63 s64 s65 s66 s67 s68 s69 s70 s71 s72 s73 s74 s75 s76 s77 s78 s79 s11 : Value)
structure QueCaA where
 (b0 b1 b2 b3 b4 b5 : Bool)
 (s135 s136 s137 : Value)
set_option maxHeartbeats 1600000 in
set_option maxRecDepth 100000 in
theorem queueCarries_main (w : World) (v : Value) (l : List Int) (hv : IsInts w v l) (m : Nat) (hc : l.length ≤ 20 ∧ 1 ≤ m ∧ m ≤ 4) :
 Calls Tryz.prog 3 #[v, .int .i64 (m : Nat)] w fun e w' => e = .returned (.bool true) ∧ Below w.heap.size w w' := by
 obtain ⟨va, vn, vc, rfl, hvn⟩ : ∃ a n c, v = .slice a n c ∧ n = l.length := by obtain ⟨a, c, h, _⟩ := hv.1.shape; exact ⟨a, _, c, h, rfl⟩
 have HV := Lib.hid hv
 have HVN := Lib.hid hvn
 obtain ⟨l0, hl0⟩ : ∃ l : List UInt8, l = List.replicate 1000 0 := ⟨_, rfl⟩
 have hn0 : l0.length = 1000 := by rw [hl0]; simp
 have HN0 := Lib.hid hn0
 have hzz := zerosK_own w 1000 (by decide)
 rw [← hl0] at hzz
 have AM := Lib.hid hzz
 have BW := Lib.hid ((Below.refl w.heap.size w).alloc (Nat.le_refl _) (.cells (madeCells #[.int .u8 0] 1000) 5))
 have hmk := run_zeros1000
 have hc1 : vn ≤ 20 := by rw [hvn]; exact hc.1
 have hm1 : 1 ≤ m := hc.2.1
 have hm4 : m ≤ 4 := hc.2.2
 have d1 : decide ((20 : Int) < ((vn : Nat) : Int)) = false := decide_eq_false (by omega)
 have d2 : decide (((m : Nat) : Int) < 1) = false := decide_eq_false (by omega)
 have d3 : decide ((4 : Int) < ((m : Nat) : Int)) = false := decide_eq_false (by omega)
 have HM1 := Lib.hid hm1
 have HM4 := Lib.hid hm4
 clear hv hvn hl0 hn0 hzz hc
 go_enter Tryz.func3, Tryz.ntmps3
 go_wp2_with fail
 refine (new16_this _ l0 _ AM.out HN0.out).mono ?_
 rintro e w1 ⟨aa, ca, fa0, fc0, xa0, xc0, G1, q1, rfl, hm, hgl, hq, hb⟩
 clear hmk d1 d2 d3
 have HG1 := Lib.hid hgl
 clear hgl
 replace AM := Lib.hid (AM.out.below hb)
 replace BW := Lib.hid (BW.out.trans (hb.mono BW.out.size))
 have Aa := Lib.hid hm
 clear hm
 have Qa := Lib.hid hq
 clear hq
 clear hb
 clear AM
 have HS1 := Lib.hid (show w.heap.size ≤ w1.heap.size from BW.out.size)
 have hbx : Below (w1).heap.size (w1) ((w1).alloc (.cells #[.slice aa 1000 ca] 26)) := (Below.refl _ _).alloc (Nat.le_refl _) _
 replace BW := Lib.hid (BW.out.trans (hbx.mono BW.out.size))
 replace Aa := Lib.hid (Aa.out.below hbx)
 replace Qa := Lib.hid (Qa.out.below hbx)
 have Rm := Lib.hid (heap_alloc_new (w1) (.cells #[.slice aa 1000 ca] 26))
 clear hbx
 have hbx : Below ((w1).alloc (.cells #[.slice aa 1000 ca] 26)).heap.size ((w1).alloc (.cells #[.slice aa 1000 ca] 26)) (((w1).alloc (.cells #[.slice aa 1000 ca] 26)).alloc (.cells #[.int .i64 0, .int .i64 16, .slice fa0 16 fc0, .int .u16 0, .int .u16 0, .slice xa0 0 xc0] 30)) := (Below.refl _ _).alloc (Nat.le_refl _) _
 replace BW := Lib.hid (BW.out.trans (hbx.mono BW.out.size))
 replace Aa := Lib.hid (Aa.out.below hbx)
 replace Qa := Lib.hid (Qa.out.below hbx)
 replace Rm := Lib.hid (row_keep Rm.out hbx)
 have Rq := Lib.hid (heap_alloc_new ((w1).alloc (.cells #[.slice aa 1000 ca] 26)) (.cells #[.int .i64 0, .int .i64 16, .slice fa0 16 fc0, .int .u16 0, .int .u16 0, .slice xa0 0 xc0] 30))
 clear hbx
 have hsz : ((w1).alloc (.cells #[.slice aa 1000 ca] 26)).heap.size = w1.heap.size + 1 := by simp
 rw [hsz] at Rq
 clear hsz
 go_wp2_with fail
 refine (serve_this 0 16 _).mono ?_
 rintro e w2 ⟨rfl, hb⟩
 replace BW := Lib.hid (BW.out.trans (hb.mono BW.out.size))
 replace Aa := Lib.hid (Aa.out.below hb)
 replace Qa := Lib.hid (Qa.out.below hb)
 replace Rm := Lib.hid (row_keep Rm.out hb)
 replace Rq := Lib.hid (row_keep Rq.out hb)
 clear hb
 have HS2 := Lib.hid (show w.heap.size ≤ w2.heap.size from BW.out.size)
 have hbx : Below (w2).heap.size (w2) ((w2).alloc (.cells #[.int .i64 0, .int .i64 16, .int .u16 0, .int .u16 0] 35)) := (Below.refl _ _).alloc (Nat.le_refl _) _
 replace BW := Lib.hid (BW.out.trans (hbx.mono BW.out.size))
 replace Aa := Lib.hid (Aa.out.below hbx)
 replace Qa := Lib.hid (Qa.out.below hbx)
 replace Rm := Lib.hid (row_keep Rm.out hbx)
 replace Rq := Lib.hid (row_keep Rq.out hbx)
 have Rd := Lib.hid (heap_alloc_new (w2) (.cells #[.int .i64 0, .int .i64 16, .int .u16 0, .int .u16 0] 35))
 clear hbx
 go_wp2
 go_loopw [9, 10] (fun f i wr => ∃ (r fn : Nat) (am : Option Addr) (cm : Nat) (fm : Option Addr) (fc : Nat) (xm : Option Addr) (xn xc av : Nat) (q : QQ) (G : List UInt8), f = .int .i64 (fn : Nat) ∧ i = .int .i64 (r : Nat) ∧ fn + r = 16 ∧ G.length = 1000 ∧ wr.heap[w1.heap.size]? = some (.cells #[.slice am 1000 cm] 26 (0, 0)) ∧ wr.heap[w1.heap.size + 1]? = some (.cells #[.int .i64 0, .int .i64 16, .slice fm fn fc, .int .u16 (av : Nat), .int .u16 0, .slice xm xn xc] 30 (0, 0)) ∧ wr.heap[w2.heap.size]? = some (.cells #[.int .i64 0, .int .i64 16, .int .u16 (av : Nat), .int .u16 0] 35 (0, 0)) ∧ OwnB 0 wr (.slice am 1000 cm) G ∧ HC wr fm fn fc xm xn xc av q ∧ Below w.heap.size w wr) (fun _ i _ => 100 - (intOf i).toNat)
 case atStart => exact ⟨0, 16, _, _, _, _, _, _, _, 0, _, G1, rfl, rfl, rfl, HG1.out, Rm.out, Rq.out, Rd.out, Aa.out, Qa.out, BW.out⟩
 case round =>
  clear Rm Rq Rd Aa Qa BW
  obtain ⟨r, fn, am, cm, fm, fc, xm, xn, xc, av, q, G, rfl, rfl, hfr, hG, hm, hq, hd, ho, hi, hb⟩ := hrel
  have Rm := Lib.hid hm
  have Rq := Lib.hid hq
  have Rd := Lib.hid hd
  have Am := Lib.hid ho
  have Qm := Lib.hid hi
  have BW := Lib.hid hb
  clear hm hq hd ho hi hb
  have HG := Lib.hid hG
  have HFR := Lib.hid hfr
  clear hG
  have hr16 : r ≤ 16 := by omega
  clear hfr
  rcases Nat.lt_or_ge vn (r + m) with hgt | hle
  · obtain ⟨lRq0c1, zRq0c1⟩ := at_cell Rq.out 0 _ rfl
    clear zRq0c1
    obtain ⟨lRq1c2, zRq1c2⟩ := at_cell Rq.out 1 _ rfl
    clear zRq1c2
    obtain ⟨lRq2c3, zRq2c3⟩ := at_cell Rq.out 2 _ rfl
    clear zRq2c3
    obtain ⟨lRq3c4, zRq3c4⟩ := at_cell Rq.out 3 _ rfl
    clear zRq3c4
    obtain ⟨lRq4c5, zRq4c5⟩ := at_cell Rq.out 4 _ rfl
    clear zRq4c5
    obtain ⟨lRq5c6, zRq5c6⟩ := at_cell Rq.out 5 _ rfl
    clear zRq5c6
    go_wp2_with fail
    refine (heads_any _).mono ?_
    rintro e w3 ⟨rfl, hb⟩
    clear lRq0c1 lRq1c2 lRq2c3 lRq3c4 lRq4c5 lRq5c6
    replace Rm := Lib.hid (row_keep Rm.out hb)
    replace Rq := Lib.hid (row_keep Rq.out hb)
    replace Rd := Lib.hid (row_keep Rd.out hb)
    replace Am := Lib.hid (Am.out.below hb)
    replace Qm := Lib.hid (Qm.out.below hb)
    replace BW := Lib.hid (BW.out.trans (hb.mono BW.out.size))
    clear hb
    go_wp2
    go_ret
    exact ⟨rfl, BW.out⟩
  have d5 : decide (((r : Nat) : Int) + ((m : Nat) : Int) ≤ ((vn : Nat) : Int)) = true := decide_eq_true (by omega)
  go_wp2
  clear d5
  go_loopw [11, 12] (fun s k wr => ∃ (kk bc : Nat) (ba : Option Addr) (bs : List QB), kk ≤ m ∧ k = .int .i64 (kk : Nat) ∧ s = .slice ba kk bc ∧ bs.length = kk ∧ In1000 bs ∧ OwnBf w.heap.size wr (.slice ba kk bc) bs ∧ wr.heap[w1.heap.size]? = some (.cells #[.slice am 1000 cm] 26 (0, 0)) ∧ wr.heap[w1.heap.size + 1]? = some (.cells #[.int .i64 0, .int .i64 16, .slice fm fn fc, .int .u16 (av : Nat), .int .u16 0, .slice xm xn xc] 30 (0, 0)) ∧ wr.heap[w2.heap.size]? = some (.cells #[.int .i64 0, .int .i64 16, .int .u16 (av : Nat), .int .u16 0] 35 (0, 0)) ∧ OwnB 0 wr (.slice am 1000 cm) G ∧ HC wr fm fn fc xm xn xc av q ∧ Below w.heap.size w wr) (fun _ k _ => m - (intOf k).toNat)
  case atStart => exact ⟨0, 0, none, [], Nat.zero_le _, rfl, rfl, rfl, in_nil, World.ownsRow_nil _ _ _ _, Rm.out, Rq.out, Rd.out, Am.out, Qm.out, BW.out⟩
  case round =>
   clear Rm Rq Rd Am Qm BW
   obtain ⟨kk, bc, ba, bs, hk, rfl, rfl, hbl, hbi, hbf, hm, hq, hd, ho, hi, hb⟩ := hrel
   have Rm := Lib.hid hm
   have Rq := Lib.hid hq
   have Rd := Lib.hid hd
   have Am := Lib.hid ho
   have Qm := Lib.hid hi
   have BW := Lib.hid hb
   clear hm hq hd ho hi hb
   have BF := Lib.hid hbf
   have HBL := Lib.hid hbl
   have HBI := Lib.hid hbi
   clear hbf hbl hbi
   rcases Nat.lt_or_ge kk m with hlt | hge
   · obtain ⟨s, hs⟩ : ∃ s, s = r + kk := ⟨_, rfl⟩
     have hs1 : ((r : Nat) : Int) + ((kk : Nat) : Int) = ((s : Nat) : Int) := by omega
     have hs2 : s < vn := by omega
     obtain ⟨bx, off, rfl, hx⟩ := (HV.out.below BW.out).at s (by rw [← HVN.out]; exact hs2)
     obtain ⟨xj, hxj⟩ : ∃ x, l.getD s 0 = x := ⟨_, rfl⟩
     rw [hxj] at hx
     obtain ⟨y, hy, hya⟩ := and_small xj 15 (by decide)
     obtain ⟨y2, hy2, hyb⟩ := and_small xj 16 (by decide)
     have hya : bits BinOp.and IntKind.i64 xj 15 = (y : Int) := hya
     have hyb : bits BinOp.and IntKind.i64 xj 16 = (y2 : Int) := hyb
     have HY := Lib.hid hy
     clear hs hxj hy2
     have p0 : IntKind.i64.wrap (((s : Nat) : Int)) = ((s : Nat) : Int) := IntWalk.i64_in _ (by omega)
     have q0 : RowKit.wrap64 (((s : Nat) : Int)) = ((s : Nat) : Int) := IntWalk.wrap64_in _ (by omega)
     have p1 : IntKind.i64.wrap (8 * ((kk : Nat) : Int)) = 8 * ((kk : Nat) : Int) := IntWalk.i64_in _ (by omega)
     have q1 : RowKit.wrap64 (8 * ((kk : Nat) : Int)) = 8 * ((kk : Nat) : Int) := IntWalk.wrap64_in _ (by omega)
     have p2 : IntKind.i64.wrap (500 + 8 * ((kk : Nat) : Int)) = 500 + 8 * ((kk : Nat) : Int) := IntWalk.i64_in _ (by omega)
     have q2 : RowKit.wrap64 (500 + 8 * ((kk : Nat) : Int)) = 500 + 8 * ((kk : Nat) : Int) := IntWalk.wrap64_in _ (by omega)
     have p3 : IntKind.i64.wrap (1 + ((y : Nat) : Int)) = 1 + ((y : Nat) : Int) := IntWalk.i64_in _ (by omega)
     have q3 : RowKit.wrap64 (1 + ((y : Nat) : Int)) = 1 + ((y : Nat) : Int) := IntWalk.wrap64_in _ (by omega)
     go_wp2_with fail
     have P0 := Lib.hid p0
     have P1 := Lib.hid p1
     have P2 := Lib.hid p2
     have P3 := Lib.hid p3
     have Q0 := Lib.hid q0
     have Q1 := Lib.hid q1
     have Q2 := Lib.hid q2
     have Q3 := Lib.hid q3
     have HS9 := Lib.hid hs1
     have HSV := Lib.hid hs2
     have HYA := Lib.hid hya
     have HYB := Lib.hid hyb
     have HX9 := Lib.hid (show ∀ W, Below wr.heap.size wr W → W.cell? ⟨bx, off + s, none⟩ = some (.int .i64 xj) from fun W hW => by rw [hW.cell (World.block_lt_of_cell? wr _ hx)]; exact hx)
     have HCL := Lib.hid (show bs.length + 1 ≤ 1000 by have := HBL.out; have := HM4.out; omega)
     have HBS := Lib.hid BW.out.size
     obtain ⟨ib, hib, hbz0, hbz1, hbz2⟩ := info_parts infoBf
     clear hx hya hyb hs1 hs2 p0 q0 p1 q1 p2 q2 p3 q3
     refine wp_region_rec (X := QueCaB) (by kernel_rfl) (by kernel_rfl) (fun x => #[x.b0, x.b1, x.b2, x.b3, x.b4, x.b5, x.b6, x.b7, x.b8, x.b9, x.b10, x.b11, x.b12, x.b13, x.b14, x.b15, x.b16, x.b17, x.b18, x.b19, x.b20, x.b21, x.b22, x.b23]) (fun x => { tmps := List.toArray ((.slice (some ⟨bx, off, none⟩) vn vc) :: (.int .i64 (m : Nat)) :: undef :: undef :: u4 :: (.pointer (some ⟨w1.heap.size, 0, none⟩)) :: (.pointer (some ⟨w1.heap.size + 1, 0, none⟩)) :: (.int .i64 0) :: (.pointer (some ⟨w2.heap.size, 0, none⟩)) :: (.int .i64 (fn : Nat)) :: (.int .i64 (r : Nat)) :: x.s11 :: (.int .i64 (kk : Nat)) :: u13 :: u14 :: u15 :: u16 :: u17 :: u18 :: u19 :: u20 :: (.slice (some ⟨bx, off, none⟩) vn vc) :: (.int .i64 (vn : Nat)) :: (.bool false) :: (.bool false) :: (.int .i64 (m : Nat)) :: (.bool false) :: (.bool false) :: (.bool false) :: (.int .i64 (m : Nat)) :: (.bool false) :: (.bool false) :: undef :: (.tuple #[.agg #[.slice aa 1000 ca], .agg #[.int .i64 0, .int .i64 16, .slice fa0 16 fc0, .int .u16 0, .int .u16 0, .slice xa0 0 xc0], .int .i64 0]) :: (.slice (some ⟨w.heap.size, 0, none⟩) 1000 1000) :: (.agg #[.slice (some ⟨w.heap.size, 0, none⟩) 1000 1000]) :: (.tuple #[.agg #[.slice aa 1000 ca], .agg #[.int .i64 0, .int .i64 16, .slice fa0 16 fc0, .int .u16 0, .int .u16 0, .slice xa0 0 xc0], .int .i64 0]) :: (.agg #[.slice aa 1000 ca]) :: (.agg #[.int .i64 0, .int .i64 16, .slice fa0 16 fc0, .int .u16 0, .int .u16 0, .slice xa0 0 xc0]) :: (.int .i64 0) :: (.agg #[.int .i64 0, .int .i64 16, .int .u16 0, .int .u16 0]) :: (.int .i64 0) :: (.bool false) :: (.int .i64 (r : Nat)) :: (.int .i64 (m : Nat)) :: (.int .i64 ((r : Nat) + (m : Nat))) :: (.slice (some ⟨bx, off, none⟩) vn vc) :: (.int .i64 (vn : Nat)) :: (.bool true) :: u49 :: u50 :: u51 :: (.int .i64 (kk : Nat)) :: (.int .i64 (m : Nat)) :: (.bool true) :: u55 :: u56 :: x.s57 :: x.s58 :: x.s59 :: x.s60 :: x.s61 :: x.s62 :: x.s63 :: x.s64 :: x.s65 :: x.s66 :: x.s67 :: x.s68 :: x.s69 :: x.s70 :: x.s71 :: x.s72 :: x.s73 :: x.s74 :: x.s75 :: x.s76 :: x.s77 :: x.s78 :: x.s79 :: u80 :: u81 :: u82 :: u83 :: u84 :: u85 :: u86 :: u87 :: u88 :: u89 :: u90 :: u91 :: u92 :: u93 :: u94 :: u95 :: u96 :: u97 :: u98 :: u99 :: u100 :: u101 :: u102 :: u103 :: u104 :: u105 :: u106 :: u107 :: u108 :: u109 :: u110 :: u111 :: u112 :: u113 :: u114 :: u115 :: u116 :: u117 :: u118 :: u119 :: u120 :: u121 :: u122 :: u123 :: u124 :: u125 :: u126 :: u127 :: u128 :: u129 :: u130 :: u131 :: u132 :: u133 :: u134 :: u135 :: u136 :: u137 :: undef :: undef :: undef :: undef :: undef :: undef :: undef :: undef :: []), defers := [] }) (fun x W => (x.b0 = true → x.s57 = .slice ba kk bc) ∧ (x.b1 = true → x.s58 = .int .i64 (kk : Nat)) ∧ (x.b2 = true → x.s59 = .int .i64 (8 * (kk : Nat))) ∧ (x.b3 = true → x.s60 = .int .i64 (500 + 8 * (kk : Nat))) ∧ (x.b4 = true → x.s61 = .slice (some ⟨bx, off, none⟩) vn vc) ∧ (x.b5 = true → x.s62 = .int .i64 (r : Nat)) ∧ (x.b6 = true → x.s63 = .int .i64 (kk : Nat)) ∧ (x.b7 = true → x.s64 = .int .i64 (s : Nat)) ∧ (x.b8 = true → x.s65 = .pointer (some ⟨bx, off + s, none⟩)) ∧ (x.b9 = true → x.s66 = .int .i64 xj) ∧ (x.b10 = true → x.s67 = .int .i64 (y : Nat)) ∧ (x.b11 = true → x.s68 = .int .i64 (1 + (y : Nat))) ∧ (x.b12 = true → x.s69 = .slice (some ⟨bx, off, none⟩) vn vc) ∧ (x.b13 = true → x.s70 = .int .i64 (r : Nat)) ∧ (x.b14 = true → x.s71 = .int .i64 (kk : Nat)) ∧ (x.b15 = true → x.s72 = .int .i64 (s : Nat)) ∧ (x.b16 = true → x.s73 = .pointer (some ⟨bx, off + s, none⟩)) ∧ (x.b17 = true → x.s74 = .int .i64 xj) ∧ (x.b18 = true → x.s75 = .int .i64 (y2 : Nat)) ∧ (x.b19 = true → x.s76 = .bool (((y2 : Nat) : Int) != 0)) ∧ (x.b20 = true → x.s77 = .agg #[.int .i64 (500 + 8 * (kk : Nat)), .int .i64 (1 + (y : Nat)), .bool (((y2 : Nat) : Int) != 0)]) ∧ (x.b23 = true → x.s11 = x.s79) ∧ (x.b22 = true → x.b9 = true ∧ x.b17 = true ∧ x.b21 = true) ∧ (x.b23 = true → x.b0 = true ∧ x.b22 = true) ∧ (x.b21 = true → x.b9 = true ∧ x.b17 = true) ∧ (x.b20 = true → x.b9 = true ∧ x.b17 = true) ∧ (x.b19 = true → x.b17 = true) ∧ (x.b18 = true → x.b17 = true) ∧ (x.b11 = true → x.b9 = true) ∧ (x.b10 = true → x.b9 = true) ∧ (x.b22 = false → Below wr.heap.size wr W) ∧ (x.b23 = false → x.s11 = .slice ba kk bc) ∧ (x.b22 = false → x.b21 = true → ∃ gs, x.s78 = .slice (some ⟨gs, 0, none⟩) 1 1 ∧ W.heap[gs]? = some (.cells #[.int .i64 (500 + 8 * (kk : Nat)), .int .i64 (1 + (y : Nat)), .bool (((y2 : Nat) : Int) != 0)] 39 (0, 0))) ∧ (x.b22 = true → ∃ ca2 cc2 Wp, x.s79 = .slice ca2 (bs.length + 1) cc2 ∧ Below wr.heap.size wr Wp ∧ Grew w.heap.size Wp W (.slice ba kk bc) (.slice ca2 (bs.length + 1) cc2) 39 3 (bs.length + 1) (bufCells bs ++ [.int .i64 (500 + 8 * (kk : Nat)), .int .i64 (1 + (y : Nat)), .bool (((y2 : Nat) : Int) != 0)]))) ⟨false, false, false, false, false, false, false, false, false, false, false, false, false, false, false, false, false, false, false, false, false, false, false, false, u57, u58, u59, u60, u61, u62, u63, u64, u65, u66, u67, u68, u69, u70, u71, u72, u73, u74, u75, u76, u77, u78, u79, .slice ba kk bc⟩ rfl rfl ⟨(fun h => by cases h), (fun h => by cases h), (fun h => by cases h), (fun h => by cases h), (fun h => by cases h), (fun h => by cases h), (fun h => by cases h), (fun h => by cases h), (fun h => by cases h), (fun h => by cases h), (fun h => by cases h), (fun h => by cases h), (fun h => by cases h), (fun h => by cases h), (fun h => by cases h), (fun h => by cases h), (fun h => by cases h), (fun h => by cases h), (fun h => by cases h), (fun h => by cases h), (fun h => by cases h), (fun h => by cases h), (fun h => by cases h), (fun h => by cases h), (fun h => by cases h), (fun h => by cases h), (fun h => by cases h), (fun h => by cases h), (fun h => by cases h), (fun h => by cases h), (fun _ => (Below.refl _ _).drew), (fun _ => rfl), (fun _ h => by cases h), (fun h => by cases h)⟩ (fun _ => rfl) ?hstep ?hdone
     case hstep =>
      rintro ⟨b0, b1, b2, b3, b4, b5, b6, b7, b8, b9, b10, b11, b12, b13, b14, b15, b16, b17, b18, b19, b20, b21, b22, b23, s57, s58, s59, s60, s61, s62, s63, s64, s65, s66, s67, s68, s69, s70, s71, s72, s73, s74, s75, s76, s77, s78, s79, s11⟩ W hI i hi
      dsimp only at hI hi ⊢
      have HI := Lib.hid hI
      clear hI
      rw [Region.ready, List.mem_filter, List.mem_range] at hi
      obtain ⟨hlt, hp⟩ := hi
      have hi7 : i = 0 ∨ i = 1 ∨ i = 2 ∨ i = 3 ∨ i = 4 ∨ i = 5 ∨ i = 6 ∨ i = 7 ∨ i = 8 ∨ i = 9 ∨ i = 10 ∨ i = 11 ∨ i = 12 ∨ i = 13 ∨ i = 14 ∨ i = 15 ∨ i = 16 ∨ i = 17 ∨ i = 18 ∨ i = 19 ∨ i = 20 ∨ i = 21 ∨ i = 22 ∨ i = 23 := by simp at hlt; omega
      clear hlt
      rcases hi7 with rfl | rfl | rfl | rfl | rfl | rfl | rfl | rfl | rfl | rfl | rfl | rfl | rfl | rfl | rfl | rfl | rfl | rfl | rfl | rfl | rfl | rfl | rfl | rfl
      all_goals simp [Region.binds] at hp
      · obtain rfl : b0 = false := by revert hp; cases b0 <;> simp
        clear hp
        refine inv_op (o := ⟨some 57, _, _, _, _, _⟩) rfl (fun K' hK' => ?_)
        have gi23 := HI.out.2.2.2.2.2.2.2.2.2.2.2.2.2.2.2.2.2.2.2.2.2.2.2.1
        have gL := HI.out.2.2.2.2.2.2.2.2.2.2.2.2.2.2.2.2.2.2.2.2.2.2.2.2.2.2.2.2.2.2.2.1
        have hbf23 : b23 = false := by cases b23 with | false => rfl | true => exact absurd ((gi23 rfl).1) (by decide)
        subst hbf23
        obtain rfl := gL rfl
        go_simp
        exact hK'.out _ _ ⟨.mk .., rfl, rfl, Nxt (Nxt (Nxt (Nx4 (Nx16 (Upd (fun e => by cases e)))))) ((Upd (fun _ => rfl)) HI.out)⟩
      · obtain rfl : b1 = false := by revert hp; cases b1 <;> simp
        clear hp
        refine inv_op (o := ⟨some 58, _, _, _, _, _⟩) rfl (fun K' hK' => ?_)
        go_simp
        exact hK'.out _ _ ⟨.mk .., rfl, rfl, Nxt (Upd (fun _ => rfl)) HI.out⟩
      · obtain ⟨rfl, e1⟩ : b2 = false ∧ b1 = true := by revert hp; cases b2 <;> cases b1 <;> simp
        clear hp
        obtain rfl := (HI.out.2.1) e1
        refine inv_op (o := ⟨some 59, _, _, _, _, _⟩) rfl (fun K' hK' => ?_)
        have p := P1.out
        have q := Q1.out
        go_simp
        exact hK'.out _ _ ⟨.mk .., rfl, rfl, Nxt (Nxt (Upd (fun _ => rfl))) HI.out⟩
      · obtain ⟨rfl, e2⟩ : b3 = false ∧ b2 = true := by revert hp; cases b3 <;> cases b2 <;> simp
        clear hp
        obtain rfl := (HI.out.2.2.1) e2
        refine inv_op (o := ⟨some 60, _, _, _, _, _⟩) rfl (fun K' hK' => ?_)
        have p := P2.out
        have q := Q2.out
        go_simp
        exact hK'.out _ _ ⟨.mk .., rfl, rfl, Nxt (Nxt (Nxt (Upd (fun _ => rfl)))) HI.out⟩
      · obtain rfl : b4 = false := by revert hp; cases b4 <;> simp
        clear hp
        refine inv_op (o := ⟨some 61, _, _, _, _, _⟩) rfl (fun K' hK' => ?_)
        go_simp
        exact hK'.out _ _ ⟨.mk .., rfl, rfl, Nx4 (Upd (fun _ => rfl)) HI.out⟩
      · obtain rfl : b5 = false := by revert hp; cases b5 <;> simp
        clear hp
        refine inv_op (o := ⟨some 62, _, _, _, _, _⟩) rfl (fun K' hK' => ?_)
        go_simp
        exact hK'.out _ _ ⟨.mk .., rfl, rfl, Nxt (Nx4 (Upd (fun _ => rfl))) HI.out⟩
      · obtain rfl : b6 = false := by revert hp; cases b6 <;> simp
        clear hp
        refine inv_op (o := ⟨some 63, _, _, _, _, _⟩) rfl (fun K' hK' => ?_)
        go_simp
        exact hK'.out _ _ ⟨.mk .., rfl, rfl, Nxt (Nxt (Nx4 (Upd (fun _ => rfl)))) HI.out⟩
      · obtain ⟨rfl, e5, e6⟩ : b7 = false ∧ b5 = true ∧ b6 = true := by revert hp; cases b7 <;> cases b5 <;> cases b6 <;> simp
        clear hp
        obtain rfl := (HI.out.2.2.2.2.2.1) e5
        obtain rfl := (HI.out.2.2.2.2.2.2.1) e6
        refine inv_op (o := ⟨some 64, _, _, _, _, _⟩) rfl (fun K' hK' => ?_)
        have p := P0.out
        have q := Q0.out
        have hs := HS9.out
        go_simp
        exact hK'.out _ _ ⟨.mk .., rfl, rfl, Nxt (Nxt (Nxt (Nx4 (Upd (fun _ => rfl))))) HI.out⟩
      · obtain ⟨rfl, e4, e7⟩ : b8 = false ∧ b4 = true ∧ b7 = true := by revert hp; cases b8 <;> cases b4 <;> cases b7 <;> simp
        clear hp
        obtain rfl := (HI.out.2.2.2.2.1) e4
        obtain rfl := (HI.out.2.2.2.2.2.2.2.1) e7
        refine inv_op (o := ⟨some 65, _, _, _, _, _⟩) rfl (fun K' hK' => ?_)
        have hs := HSV.out
        go_simp
        exact hK'.out _ _ ⟨.mk .., rfl, rfl, Nx4 (Nx4 (Upd (fun _ => rfl))) HI.out⟩
      · obtain ⟨rfl, e8⟩ : b9 = false ∧ b8 = true := by revert hp; cases b9 <;> cases b8 <;> simp
        clear hp
        obtain rfl := (HI.out.2.2.2.2.2.2.2.2.1) e8
        refine inv_op (o := ⟨some 66, _, _, _, _, _⟩) rfl (fun K' hK' => ?_)
        have gi22 := HI.out.2.2.2.2.2.2.2.2.2.2.2.2.2.2.2.2.2.2.2.2.2.2.1
        have gi21 := HI.out.2.2.2.2.2.2.2.2.2.2.2.2.2.2.2.2.2.2.2.2.2.2.2.2.1
        have gi20 := HI.out.2.2.2.2.2.2.2.2.2.2.2.2.2.2.2.2.2.2.2.2.2.2.2.2.2.1
        have gi11 := HI.out.2.2.2.2.2.2.2.2.2.2.2.2.2.2.2.2.2.2.2.2.2.2.2.2.2.2.2.2.1
        have gi10 := HI.out.2.2.2.2.2.2.2.2.2.2.2.2.2.2.2.2.2.2.2.2.2.2.2.2.2.2.2.2.2.1
        have gB := HI.out.2.2.2.2.2.2.2.2.2.2.2.2.2.2.2.2.2.2.2.2.2.2.2.2.2.2.2.2.2.2.1
        have hbf22 : b22 = false := by cases b22 with | false => rfl | true => exact absurd ((gi22 rfl).1) (by decide)
        subst hbf22
        have hbf21 : b21 = false := by cases b21 with | false => rfl | true => exact absurd ((gi21 rfl).1) (by decide)
        subst hbf21
        have hbf20 : b20 = false := by cases b20 with | false => rfl | true => exact absurd ((gi20 rfl).1) (by decide)
        subst hbf20
        have hbf11 : b11 = false := by cases b11 with | false => rfl | true => exact absurd ((gi11 rfl)) (by decide)
        subst hbf11
        have hbf10 : b10 = false := by cases b10 with | false => rfl | true => exact absurd ((gi10 rfl)) (by decide)
        subst hbf10
        have hx := HX9.out W (gB rfl)
        go_simp
        obtain ⟨h0, h1, h2, h3, h4, h5, h6, h7, h8, h9, h10, h11, h12, h13, h14, h15, h16, h17, h18, h19, h20, h23, gi22, gi23, gi21, gi20, gi19, gi18, gi11, gi10, gB, gL, gS, gC⟩ := HI.out
        exact hK'.out _ _ ⟨.mk .., rfl, rfl, h0, h1, h2, h3, h4, h5, h6, h7, h8, (fun _ => rfl), h10, h11, h12, h13, h14, h15, h16, h17, h18, h19, h20, h23, (fun e => by cases e), gi23, (fun e => by cases e), (fun e => by cases e), gi19, gi18, (fun e => by cases e), (fun e => by cases e), gB, gL, gS, (fun e => by cases e)⟩
      · obtain ⟨rfl, e9⟩ : b10 = false ∧ b9 = true := by revert hp; cases b10 <;> cases b9 <;> simp
        clear hp
        obtain rfl := (HI.out.2.2.2.2.2.2.2.2.2.1) e9
        refine inv_op (o := ⟨some 67, _, _, _, _, _⟩) rfl (fun K' hK' => ?_)
        have h := HYA.out
        go_simp
        exact hK'.out _ _ ⟨.mk .., rfl, rfl, Nxt (Nx4 (Nx4 (Nx4 (Nx16 (Upd (fun _ => e9)))))) (Nxt (Nxt (Nx4 (Nx4 (Upd (fun _ => rfl))))) HI.out)⟩
      · obtain ⟨rfl, e10⟩ : b11 = false ∧ b10 = true := by revert hp; cases b11 <;> cases b10 <;> simp
        clear hp
        obtain rfl := (HI.out.2.2.2.2.2.2.2.2.2.2.1) e10
        refine inv_op (o := ⟨some 68, _, _, _, _, _⟩) rfl (fun K' hK' => ?_)
        have p := P3.out
        have q := Q3.out
        go_simp
        obtain ⟨h0, h1, h2, h3, h4, h5, h6, h7, h8, h9, h10, h11, h12, h13, h14, h15, h16, h17, h18, h19, h20, h23, gi22, gi23, gi21, gi20, gi19, gi18, gi11, gi10, gB, gL, gS, gC⟩ := HI.out
        exact hK'.out _ _ ⟨.mk .., rfl, rfl, h0, h1, h2, h3, h4, h5, h6, h7, h8, h9, h10, (fun _ => rfl), h12, h13, h14, h15, h16, h17, h18, h19, h20, h23, gi22, gi23, gi21, gi20, gi19, gi18, (fun _ => (gi10 e10)), gi10, gB, gL, gS, gC⟩
      · obtain rfl : b12 = false := by revert hp; cases b12 <;> simp
        clear hp
        refine inv_op (o := ⟨some 69, _, _, _, _, _⟩) rfl (fun K' hK' => ?_)
        go_simp
        exact hK'.out _ _ ⟨.mk .., rfl, rfl, Nx4 (Nx4 (Nx4 (Upd (fun _ => rfl)))) HI.out⟩
      · obtain rfl : b13 = false := by revert hp; cases b13 <;> simp
        clear hp
        refine inv_op (o := ⟨some 70, _, _, _, _, _⟩) rfl (fun K' hK' => ?_)
        go_simp
        exact hK'.out _ _ ⟨.mk .., rfl, rfl, Nxt (Nx4 (Nx4 (Nx4 (Upd (fun _ => rfl))))) HI.out⟩
      · obtain rfl : b14 = false := by revert hp; cases b14 <;> simp
        clear hp
        refine inv_op (o := ⟨some 71, _, _, _, _, _⟩) rfl (fun K' hK' => ?_)
        go_simp
        exact hK'.out _ _ ⟨.mk .., rfl, rfl, Nxt (Nxt (Nx4 (Nx4 (Nx4 (Upd (fun _ => rfl)))))) HI.out⟩
      · obtain ⟨rfl, e13, e14⟩ : b15 = false ∧ b13 = true ∧ b14 = true := by revert hp; cases b15 <;> cases b13 <;> cases b14 <;> simp
        clear hp
        obtain rfl := (HI.out.2.2.2.2.2.2.2.2.2.2.2.2.2.1) e13
        obtain rfl := (HI.out.2.2.2.2.2.2.2.2.2.2.2.2.2.2.1) e14
        refine inv_op (o := ⟨some 72, _, _, _, _, _⟩) rfl (fun K' hK' => ?_)
        have p := P0.out
        have q := Q0.out
        have hs := HS9.out
        go_simp
        exact hK'.out _ _ ⟨.mk .., rfl, rfl, Nxt (Nxt (Nxt (Nx4 (Nx4 (Nx4 (Upd (fun _ => rfl))))))) HI.out⟩
      · obtain ⟨rfl, e12, e15⟩ : b16 = false ∧ b12 = true ∧ b15 = true := by revert hp; cases b16 <;> cases b12 <;> cases b15 <;> simp
        clear hp
        obtain rfl := (HI.out.2.2.2.2.2.2.2.2.2.2.2.2.1) e12
        obtain rfl := (HI.out.2.2.2.2.2.2.2.2.2.2.2.2.2.2.2.1) e15
        refine inv_op (o := ⟨some 73, _, _, _, _, _⟩) rfl (fun K' hK' => ?_)
        have hs := HSV.out
        go_simp
        exact hK'.out _ _ ⟨.mk .., rfl, rfl, Nx16 (Upd (fun _ => rfl)) HI.out⟩
      · obtain ⟨rfl, e16⟩ : b17 = false ∧ b16 = true := by revert hp; cases b17 <;> cases b16 <;> simp
        clear hp
        obtain rfl := (HI.out.2.2.2.2.2.2.2.2.2.2.2.2.2.2.2.2.1) e16
        refine inv_op (o := ⟨some 74, _, _, _, _, _⟩) rfl (fun K' hK' => ?_)
        have gi22 := HI.out.2.2.2.2.2.2.2.2.2.2.2.2.2.2.2.2.2.2.2.2.2.2.1
        have gi21 := HI.out.2.2.2.2.2.2.2.2.2.2.2.2.2.2.2.2.2.2.2.2.2.2.2.2.1
        have gi20 := HI.out.2.2.2.2.2.2.2.2.2.2.2.2.2.2.2.2.2.2.2.2.2.2.2.2.2.1
        have gi19 := HI.out.2.2.2.2.2.2.2.2.2.2.2.2.2.2.2.2.2.2.2.2.2.2.2.2.2.2.1
        have gi18 := HI.out.2.2.2.2.2.2.2.2.2.2.2.2.2.2.2.2.2.2.2.2.2.2.2.2.2.2.2.1
        have gB := HI.out.2.2.2.2.2.2.2.2.2.2.2.2.2.2.2.2.2.2.2.2.2.2.2.2.2.2.2.2.2.2.1
        have hbf22 : b22 = false := by cases b22 with | false => rfl | true => exact absurd ((gi22 rfl).2.1) (by decide)
        subst hbf22
        have hbf21 : b21 = false := by cases b21 with | false => rfl | true => exact absurd ((gi21 rfl).2) (by decide)
        subst hbf21
        have hbf20 : b20 = false := by cases b20 with | false => rfl | true => exact absurd ((gi20 rfl).2) (by decide)
        subst hbf20
        have hbf19 : b19 = false := by cases b19 with | false => rfl | true => exact absurd ((gi19 rfl)) (by decide)
        subst hbf19
        have hbf18 : b18 = false := by cases b18 with | false => rfl | true => exact absurd ((gi18 rfl)) (by decide)
        subst hbf18
        have hx := HX9.out W (gB rfl)
        go_simp
        obtain ⟨h0, h1, h2, h3, h4, h5, h6, h7, h8, h9, h10, h11, h12, h13, h14, h15, h16, h17, h18, h19, h20, h23, gi22, gi23, gi21, gi20, gi19, gi18, gi11, gi10, gB, gL, gS, gC⟩ := HI.out
        exact hK'.out _ _ ⟨.mk .., rfl, rfl, h0, h1, h2, h3, h4, h5, h6, h7, h8, h9, h10, h11, h12, h13, h14, h15, h16, (fun _ => rfl), h18, h19, h20, h23, (fun e => by cases e), gi23, (fun e => by cases e), (fun e => by cases e), (fun e => by cases e), (fun e => by cases e), gi11, gi10, gB, gL, gS, (fun e => by cases e)⟩
      · obtain ⟨rfl, e17⟩ : b18 = false ∧ b17 = true := by revert hp; cases b18 <;> cases b17 <;> simp
        clear hp
        obtain rfl := (HI.out.2.2.2.2.2.2.2.2.2.2.2.2.2.2.2.2.2.1) e17
        refine inv_op (o := ⟨some 75, _, _, _, _, _⟩) rfl (fun K' hK' => ?_)
        have h := HYB.out
        go_simp
        exact hK'.out _ _ ⟨.mk .., rfl, rfl, Nxt (Nxt (Nxt (Nx4 (Nx4 (Nx16 (Upd (fun _ => e17))))))) (Nxt (Nxt (Nx16 (Upd (fun _ => rfl)))) HI.out)⟩
      · obtain ⟨rfl, e18⟩ : b19 = false ∧ b18 = true := by revert hp; cases b19 <;> cases b18 <;> simp
        clear hp
        obtain rfl := (HI.out.2.2.2.2.2.2.2.2.2.2.2.2.2.2.2.2.2.2.1) e18
        refine inv_op (o := ⟨some 76, _, _, _, _, _⟩) rfl (fun K' hK' => ?_)
        go_simp
        obtain ⟨h0, h1, h2, h3, h4, h5, h6, h7, h8, h9, h10, h11, h12, h13, h14, h15, h16, h17, h18, h19, h20, h23, gi22, gi23, gi21, gi20, gi19, gi18, gi11, gi10, gB, gL, gS, gC⟩ := HI.out
        exact hK'.out _ _ ⟨.mk .., rfl, rfl, h0, h1, h2, h3, h4, h5, h6, h7, h8, h9, h10, h11, h12, h13, h14, h15, h16, h17, h18, (fun _ => rfl), h20, h23, gi22, gi23, gi21, gi20, (fun _ => (gi18 e18)), gi18, gi11, gi10, gB, gL, gS, gC⟩
      · have hn20 : b20 = false := by revert hp; cases b20 <;> simp
        have e3 : b3 = true := by revert hp; cases b3 <;> simp
        have e11 : b11 = true := by revert hp; cases b11 <;> simp
        have e19 : b19 = true := by revert hp; cases b19 <;> simp
        clear hp
        obtain rfl := (HI.out.2.2.2.1) e3
        obtain rfl := (HI.out.2.2.2.2.2.2.2.2.2.2.2.1) e11
        obtain rfl := (HI.out.2.2.2.2.2.2.2.2.2.2.2.2.2.2.2.2.2.2.2.1) e19
        subst hn20
        refine inv_op (o := ⟨some 77, _, _, _, _, _⟩) rfl (fun K' hK' => ?_)
        go_simp
        obtain ⟨h0, h1, h2, h3, h4, h5, h6, h7, h8, h9, h10, h11, h12, h13, h14, h15, h16, h17, h18, h19, h20, h23, gi22, gi23, gi21, gi20, gi19, gi18, gi11, gi10, gB, gL, gS, gC⟩ := HI.out
        exact hK'.out _ _ ⟨.mk .., rfl, rfl, h0, h1, h2, h3, h4, h5, h6, h7, h8, h9, h10, h11, h12, h13, h14, h15, h16, h17, h18, h19, (fun _ => rfl), h23, gi22, gi23, gi21, (fun _ => ⟨(gi11 e11), (gi19 e19)⟩), gi19, gi18, gi11, gi10, gB, gL, gS, gC⟩
      · obtain ⟨rfl, e20⟩ : b21 = false ∧ b20 = true := by revert hp; cases b21 <;> cases b20 <;> simp
        clear hp
        obtain rfl := (HI.out.2.2.2.2.2.2.2.2.2.2.2.2.2.2.2.2.2.2.2.2.1) e20
        refine inv_op (o := ⟨some 78, _, _, _, _, _⟩) rfl (fun K' hK' => ?_)
        have gi22 := HI.out.2.2.2.2.2.2.2.2.2.2.2.2.2.2.2.2.2.2.2.2.2.2.1
        have hbf22 : b22 = false := by cases b22 with | false => rfl | true => exact absurd ((gi22 rfl).2.2) (by decide)
        subst hbf22
        have bn : Below W.heap.size W (W.alloc (.cells #[.int .i64 (500 + 8 * (kk : Nat)), .int .i64 (1 + (y : Nat)), .bool (((y2 : Nat) : Int) != 0)] 39)) := (Below.refl _ _).alloc (Nat.le_refl _) _
        have hn := heap_alloc_new W (.cells #[.int .i64 (500 + 8 * (kk : Nat)), .int .i64 (1 + (y : Nat)), .bool (((y2 : Nat) : Int) != 0)] 39)
        go_simp
        obtain ⟨h0, h1, h2, h3, h4, h5, h6, h7, h8, h9, h10, h11, h12, h13, h14, h15, h16, h17, h18, h19, h20, h23, gi22, gi23, gi21, gi20, gi19, gi18, gi11, gi10, gB, gL, gS, gC⟩ := HI.out
        exact hK'.out _ _ ⟨.mk .., rfl, rfl, h0, h1, h2, h3, h4, h5, h6, h7, h8, h9, h10, h11, h12, h13, h14, h15, h16, h17, h18, h19, h20, h23, (fun e => by cases e), gi23, (fun _ => ⟨(gi20 e20).1, (gi20 e20).2⟩), gi20, gi19, gi18, gi11, gi10, (fun e => (gB e).trans (bn.mono (gB e).size)), gL, (fun _ _ => ⟨_, rfl, hn⟩), (fun e => by cases e)⟩
      · obtain ⟨rfl, e0, e21⟩ : b22 = false ∧ b0 = true ∧ b21 = true := by revert hp; cases b22 <;> cases b0 <;> cases b21 <;> simp
        clear hp
        obtain rfl := (HI.out.1) e0
        refine inv_op (o := ⟨some 79, _, _, _, _, _⟩) rfl (fun K' hK' => ?_)
        have gi23 := HI.out.2.2.2.2.2.2.2.2.2.2.2.2.2.2.2.2.2.2.2.2.2.2.2.1
        have gB := HI.out.2.2.2.2.2.2.2.2.2.2.2.2.2.2.2.2.2.2.2.2.2.2.2.2.2.2.2.2.2.2.1
        have gS := HI.out.2.2.2.2.2.2.2.2.2.2.2.2.2.2.2.2.2.2.2.2.2.2.2.2.2.2.2.2.2.2.2.2.1
        have hbf23 : b23 = false := by cases b23 with | false => rfl | true => exact absurd ((gi23 rfl).2) (by decide)
        subst hbf23
        obtain ⟨gs, rfl, hs⟩ := gS rfl e21
        obtain ⟨⟨hc0, hc1, hc2⟩, _⟩ := cells_three hs
        refine step_append_grew W rfl (.tmp 57) (.tmp 78) 37 rfl w.heap.size 39 ib (.agg #[.int .i64 0, .int .i64 0, .bool false]) 3 24 Tryz.underlying37 hib hbz0 hbz1 hbz2 rfl (by decide) (by decide) _ _ _ rfl (BF.out.below (gB rfl)) ⟨gs, 0, none⟩ 1 1 [.int .i64 (500 + 8 * (kk : Nat)), .int .i64 (1 + (y : Nat)), .bool (((y2 : Nat) : Int) != 0)] rfl rfl (three_news hc0 hc1 hc2) (buf_one _ _ _) HCL.out (Nat.le_trans HBS.out (gB rfl).size) ?_
        intro C2 w2 hgr
        obtain ⟨ca2, cc2, rfl, hq1, hq2⟩ := owns_slice hgr.own
        clear hq1 hq2
        have hgb := gB rfl
        obtain ⟨h0, h1, h2, h3, h4, h5, h6, h7, h8, h9, h10, h11, h12, h13, h14, h15, h16, h17, h18, h19, h20, h23, gi22, gi23, gi21, gi20, gi19, gi18, gi11, gi10, gB, gL, gS, gC⟩ := HI.out
        exact hK'.out _ _ ⟨.mk .., rfl, rfl, h0, h1, h2, h3, h4, h5, h6, h7, h8, h9, h10, h11, h12, h13, h14, h15, h16, h17, h18, h19, h20, (fun e => by cases ((gi23 e).2)), (fun _ => ⟨(gi21 e21).1, (gi21 e21).2, e21⟩), (fun e => by cases e), gi21, gi20, gi19, gi18, gi11, gi10, (fun e => by cases e), gL, (fun e => by cases e), (fun _ => ⟨ca2, cc2, W, rfl, hgb, hgr⟩)⟩
      · obtain ⟨rfl, e22, e0⟩ : b23 = false ∧ b22 = true ∧ b0 = true := by revert hp; cases b23 <;> cases b22 <;> cases b0 <;> simp
        clear hp
        refine inv_op (o := ⟨some 11, _, _, _, _, _⟩) rfl (fun K' hK' => ?_)
        go_simp
        obtain ⟨h0, h1, h2, h3, h4, h5, h6, h7, h8, h9, h10, h11, h12, h13, h14, h15, h16, h17, h18, h19, h20, h23, gi22, gi23, gi21, gi20, gi19, gi18, gi11, gi10, gB, gL, gS, gC⟩ := HI.out
        exact hK'.out _ _ ⟨.mk .., rfl, rfl, h0, h1, h2, h3, h4, h5, h6, h7, h8, h9, h10, h11, h12, h13, h14, h15, h16, h17, h18, h19, h20, (fun _ => rfl), gi22, (fun _ => ⟨e0, e22⟩), gi21, gi20, gi19, gi18, gi11, gi10, gB, (fun e => by cases e), gS, gC⟩
     case hdone =>
      rintro ⟨b0, b1, b2, b3, b4, b5, b6, b7, b8, b9, b10, b11, b12, b13, b14, b15, b16, b17, b18, b19, b20, b21, b22, b23, s57, s58, s59, s60, s61, s62, s63, s64, s65, s66, s67, s68, s69, s70, s71, s72, s73, s74, s75, s76, s77, s78, s79, s11⟩ W hI hall
      dsimp only at hI hall ⊢
      have HI := Lib.hid hI
      clear hI
      obtain rfl : b0 = true := hall 0 (by decide)
      obtain rfl : b1 = true := hall 1 (by decide)
      obtain rfl : b2 = true := hall 2 (by decide)
      obtain rfl : b3 = true := hall 3 (by decide)
      obtain rfl : b4 = true := hall 4 (by decide)
      obtain rfl : b5 = true := hall 5 (by decide)
      obtain rfl : b6 = true := hall 6 (by decide)
      obtain rfl : b7 = true := hall 7 (by decide)
      obtain rfl : b8 = true := hall 8 (by decide)
      obtain rfl : b9 = true := hall 9 (by decide)
      obtain rfl : b10 = true := hall 10 (by decide)
      obtain rfl : b11 = true := hall 11 (by decide)
      obtain rfl : b12 = true := hall 12 (by decide)
      obtain rfl : b13 = true := hall 13 (by decide)
      obtain rfl : b14 = true := hall 14 (by decide)
      obtain rfl : b15 = true := hall 15 (by decide)
      obtain rfl : b16 = true := hall 16 (by decide)
      obtain rfl : b17 = true := hall 17 (by decide)
      obtain rfl : b18 = true := hall 18 (by decide)
      obtain rfl : b19 = true := hall 19 (by decide)
      obtain rfl : b20 = true := hall 20 (by decide)
      obtain rfl : b21 = true := hall 21 (by decide)
      obtain rfl : b22 = true := hall 22 (by decide)
      obtain rfl : b23 = true := hall 23 (by decide)
      obtain rfl := (HI.out.2.2.2.2.2.2.2.2.2.2.2.2.2.2.2.2.2.2.2.2.2.1) rfl
      have gC := HI.out.2.2.2.2.2.2.2.2.2.2.2.2.2.2.2.2.2.2.2.2.2.2.2.2.2.2.2.2.2.2.2.2.2
      clear HI hall
      obtain ⟨a2, c2, Wp, rfl, hdr, hgr⟩ := gC rfl
      clear gC
      rw [HBL.out] at hgr
      have HGR := Lib.hid hgr
      clear hgr hib hbz0 hbz1 hbz2
      replace Rm := Lib.hid (row_keep Rm.out hdr)
      replace Rq := Lib.hid (row_keep Rq.out hdr)
      replace Rd := Lib.hid (row_keep Rd.out hdr)
      replace Am := Lib.hid (Am.out.below hdr)
      replace Qm := Lib.hid (Qm.out.below hdr)
      replace BW := Lib.hid (BW.out.trans (hdr.mono BW.out.size))
      replace BF := Lib.hid (BF.out.below hdr)
      clear hdr
      rw [HBL.out]
      go_wp2
      go_roundw
      case rel => exact ⟨kk + 1, c2, a2, bs ++ [((500 + 8 * (kk : Nat) : Int), (1 + (y : Nat) : Int), (((y2 : Nat) : Int) != 0))], by omega, by go_num, rfl, by rw [List.length_append, HBL.out]; rfl, in_snoc HBI.out (by have := HM4.out; omega) HY.out _, by unfold OwnBf; rw [bufCells_append, List.length_append, HBL.out]; exact HGR.out.own, HGR.out.other BF.out Rm.out (by decide), HGR.out.other BF.out Rq.out (by decide), HGR.out.other BF.out Rd.out (by decide), Am.out.grew HGR.out BF.out, Qm.out.grew HGR.out BF.out, BW.out.trans HGR.out.below⟩
      case measure => simp [intOf]; omega
   obtain rfl : m = kk := by omega
   clear hge hk
   rcases Nat.lt_or_ge fn m with hfm | hfm
   · have d4 : decide (((fn : Nat) : Int) < ((m : Nat) : Int)) = true := decide_eq_true (by omega)
     have d6 : decide (fn < m) = true := decide_eq_true (by omega)
     obtain ⟨lRm0c7, zRm0c7⟩ := at_cell Rm.out 0 _ rfl
     clear zRm0c7
     obtain ⟨lRq0c8, zRq0c8⟩ := at_cell Rq.out 0 _ rfl
     clear zRq0c8
     obtain ⟨lRq1c9, zRq1c9⟩ := at_cell Rq.out 1 _ rfl
     clear zRq1c9
     obtain ⟨lRq2c10, zRq2c10⟩ := at_cell Rq.out 2 _ rfl
     clear zRq2c10
     obtain ⟨lRq3c11, zRq3c11⟩ := at_cell Rq.out 3 _ rfl
     clear zRq3c11
     obtain ⟨lRq4c12, zRq4c12⟩ := at_cell Rq.out 4 _ rfl
     clear zRq4c12
     obtain ⟨lRq5c13, zRq5c13⟩ := at_cell Rq.out 5 _ rfl
     clear zRq5c13
     go_wp2_with fail
     refine (full16_this _ _ _ _ _ _ _ m q _ _ G bs _ Am.out Qm.out (BF.out.base (Nat.zero_le _)) HG.out HBI.out HBL.out HM1.out HM4.out hfm).mono ?_
     rintro e w4 ⟨ra, rc, f2, fn2, fc2, x2, xn2, xc2, rfl, hq, hb⟩
     clear lRm0c7 lRq0c8 lRq1c9 lRq2c10 lRq3c11 lRq4c12 lRq5c13
     replace Rm := Lib.hid (row_keep Rm.out hb)
     replace Rq := Lib.hid (row_keep Rq.out hb)
     replace Rd := Lib.hid (row_keep Rd.out hb)
     replace Am := Lib.hid (Am.out.below hb)
     replace Qm := Lib.hid (Qm.out.below hb)
     replace BW := Lib.hid (BW.out.trans (hb.mono BW.out.size))
     replace BF := Lib.hid (BF.out.below hb)
     have Qb := Lib.hid hq
     clear hq
     clear hb
     have hbx : Below (w4).heap.size (w4) ((w4).alloc (.cells #[.slice ra 1000 rc] 26)) := (Below.refl _ _).alloc (Nat.le_refl _) _
     replace Rm := Lib.hid (row_keep Rm.out hbx)
     replace Rq := Lib.hid (row_keep Rq.out hbx)
     replace Rd := Lib.hid (row_keep Rd.out hbx)
     replace Am := Lib.hid (Am.out.below hbx)
     replace Qm := Lib.hid (Qm.out.below hbx)
     replace BW := Lib.hid (BW.out.trans (hbx.mono BW.out.size))
     replace BF := Lib.hid (BF.out.below hbx)
     replace Qb := Lib.hid (Qb.out.below hbx)
     have Rn := Lib.hid (heap_alloc_new (w4) (.cells #[.slice ra 1000 rc] 26))
     clear hbx
     have hbx : Below ((w4).alloc (.cells #[.slice ra 1000 rc] 26)).heap.size ((w4).alloc (.cells #[.slice ra 1000 rc] 26)) (((w4).alloc (.cells #[.slice ra 1000 rc] 26)).alloc (.cells #[.int .i64 0, .int .i64 16, .slice f2 fn2 fc2, .int .u16 (av : Nat), .int .u16 0, .slice x2 xn2 xc2] 30)) := (Below.refl _ _).alloc (Nat.le_refl _) _
     replace Rm := Lib.hid (row_keep Rm.out hbx)
     replace Rq := Lib.hid (row_keep Rq.out hbx)
     replace Rd := Lib.hid (row_keep Rd.out hbx)
     replace Am := Lib.hid (Am.out.below hbx)
     replace Qm := Lib.hid (Qm.out.below hbx)
     replace BW := Lib.hid (BW.out.trans (hbx.mono BW.out.size))
     replace BF := Lib.hid (BF.out.below hbx)
     replace Qb := Lib.hid (Qb.out.below hbx)
     replace Rn := Lib.hid (row_keep Rn.out hbx)
     have Rp := Lib.hid (heap_alloc_new ((w4).alloc (.cells #[.slice ra 1000 rc] 26)) (.cells #[.int .i64 0, .int .i64 16, .slice f2 fn2 fc2, .int .u16 (av : Nat), .int .u16 0, .slice x2 xn2 xc2] 30))
     clear hbx
     have hsz : ((w4).alloc (.cells #[.slice ra 1000 rc] 26)).heap.size = w4.heap.size + 1 := by simp
     rw [hsz] at Rp
     clear hsz
     obtain ⟨lRq0c14, zRq0c14⟩ := at_cell Rq.out 0 _ rfl
     clear zRq0c14
     obtain ⟨lRq1c15, zRq1c15⟩ := at_cell Rq.out 1 _ rfl
     clear zRq1c15
     obtain ⟨lRq2c16, zRq2c16⟩ := at_cell Rq.out 2 _ rfl
     clear zRq2c16
     obtain ⟨lRq3c17, zRq3c17⟩ := at_cell Rq.out 3 _ rfl
     clear zRq3c17
     obtain ⟨lRq4c18, zRq4c18⟩ := at_cell Rq.out 4 _ rfl
     clear zRq4c18
     obtain ⟨lRq5c19, zRq5c19⟩ := at_cell Rq.out 5 _ rfl
     clear zRq5c19
     obtain ⟨lRp0c20, zRp0c20⟩ := at_cell Rp.out 0 _ rfl
     clear zRp0c20
     obtain ⟨lRp1c21, zRp1c21⟩ := at_cell Rp.out 1 _ rfl
     clear zRp1c21
     obtain ⟨lRp2c22, zRp2c22⟩ := at_cell Rp.out 2 _ rfl
     clear zRp2c22
     obtain ⟨lRp3c23, zRp3c23⟩ := at_cell Rp.out 3 _ rfl
     clear zRp3c23
     obtain ⟨lRp4c24, zRp4c24⟩ := at_cell Rp.out 4 _ rfl
     clear zRp4c24
     obtain ⟨lRp5c25, zRp5c25⟩ := at_cell Rp.out 5 _ rfl
     clear zRp5c25
     go_wp2_with fail
     refine (same16_this _ _ _ _ _ _ _ q _ _ _ _ _ _ _ Qb.out Qm.out).mono ?_
     rintro e w5 ⟨rfl, hb⟩
     clear lRq0c14 lRq1c15 lRq2c16 lRq3c17 lRq4c18 lRq5c19 lRp0c20 lRp1c21 lRp2c22 lRp3c23 lRp4c24 lRp5c25
     replace Rm := Lib.hid (row_keep Rm.out hb)
     replace Rq := Lib.hid (row_keep Rq.out hb)
     replace Rd := Lib.hid (row_keep Rd.out hb)
     replace Am := Lib.hid (Am.out.below hb)
     replace Qm := Lib.hid (Qm.out.below hb)
     replace BW := Lib.hid (BW.out.trans (hb.mono BW.out.size))
     replace BF := Lib.hid (BF.out.below hb)
     replace Qb := Lib.hid (Qb.out.below hb)
     replace Rn := Lib.hid (row_keep Rn.out hb)
     replace Rp := Lib.hid (row_keep Rp.out hb)
     clear hb
     go_wp2_with fail
     refine (heads_any _).mono ?_
     rintro e w6 ⟨rfl, hb⟩
     replace Rm := Lib.hid (row_keep Rm.out hb)
     replace Rq := Lib.hid (row_keep Rq.out hb)
     replace Rd := Lib.hid (row_keep Rd.out hb)
     replace Am := Lib.hid (Am.out.below hb)
     replace Qm := Lib.hid (Qm.out.below hb)
     replace BW := Lib.hid (BW.out.trans (hb.mono BW.out.size))
     replace BF := Lib.hid (BF.out.below hb)
     replace Qb := Lib.hid (Qb.out.below hb)
     replace Rn := Lib.hid (row_keep Rn.out hb)
     replace Rp := Lib.hid (row_keep Rp.out hb)
     clear hb
     go_wp2
     go_ret
     exact ⟨rfl, BW.out⟩
   have d4 : decide (((fn : Nat) : Int) < ((m : Nat) : Int)) = false := decide_eq_false (by omega)
   have d6 : decide (fn < m) = false := decide_eq_false (by omega)
   have HFM := Lib.hid hfm
   clear hfm
   obtain ⟨lRm0c26, zRm0c26⟩ := at_cell Rm.out 0 _ rfl
   clear zRm0c26
   obtain ⟨lRq0c27, zRq0c27⟩ := at_cell Rq.out 0 _ rfl
   clear zRq0c27
   obtain ⟨lRq1c28, zRq1c28⟩ := at_cell Rq.out 1 _ rfl
   clear zRq1c28
   obtain ⟨lRq2c29, zRq2c29⟩ := at_cell Rq.out 2 _ rfl
   clear zRq2c29
   obtain ⟨lRq3c30, zRq3c30⟩ := at_cell Rq.out 3 _ rfl
   clear zRq3c30
   obtain ⟨lRq4c31, zRq4c31⟩ := at_cell Rq.out 4 _ rfl
   clear zRq4c31
   obtain ⟨lRq5c32, zRq5c32⟩ := at_cell Rq.out 5 _ rfl
   clear zRq5c32
   go_wp2_with fail
   refine (add16_this _ _ _ _ _ _ _ m q _ _ G bs _ Am.out Qm.out (BF.out.base (Nat.zero_le _)) HG.out HBI.out HBL.out HM1.out HM4.out HFM.out).mono ?_
   rintro e w3 ⟨ra, rc, f2, fn2, fc2, x2, xn2, xc2, av2, q2, H, G2, rfl, hm, hq, hfd, hfe, hb⟩
   have HFD := Lib.hid hfd
   have HFE := Lib.hid hfe
   clear hfd hfe
   clear lRm0c26 lRq0c27 lRq1c28 lRq2c29 lRq3c30 lRq4c31 lRq5c32
   replace Rm := Lib.hid (row_keep Rm.out hb)
   replace Rq := Lib.hid (row_keep Rq.out hb)
   replace Rd := Lib.hid (row_keep Rd.out hb)
   replace Am := Lib.hid (Am.out.below hb)
   replace Qm := Lib.hid (Qm.out.below hb)
   replace BW := Lib.hid (BW.out.trans (hb.mono BW.out.size))
   replace BF := Lib.hid (BF.out.below hb)
   have Ab := Lib.hid hm
   clear hm
   have Qb := Lib.hid hq
   clear hq
   clear hb
   have HRM := Lib.hid ((Array.getElem?_eq_some_iff.1 Rm.out).1)
   have HRQ := Lib.hid ((Array.getElem?_eq_some_iff.1 Rq.out).1)
   have hbx : Below (w3).heap.size (w3) ((w3).alloc (.cells #[.slice ra 1000 rc] 26)) := (Below.refl _ _).alloc (Nat.le_refl _) _
   replace Rm := Lib.hid (row_keep Rm.out hbx)
   replace Rq := Lib.hid (row_keep Rq.out hbx)
   replace Rd := Lib.hid (row_keep Rd.out hbx)
   replace Am := Lib.hid (Am.out.below hbx)
   replace Qm := Lib.hid (Qm.out.below hbx)
   replace BW := Lib.hid (BW.out.trans (hbx.mono BW.out.size))
   replace BF := Lib.hid (BF.out.below hbx)
   replace Ab := Lib.hid (Ab.out.below hbx)
   replace Qb := Lib.hid (Qb.out.below hbx)
   have Rn := Lib.hid (heap_alloc_new (w3) (.cells #[.slice ra 1000 rc] 26))
   clear hbx
   have hbx : Below ((w3).alloc (.cells #[.slice ra 1000 rc] 26)).heap.size ((w3).alloc (.cells #[.slice ra 1000 rc] 26)) (((w3).alloc (.cells #[.slice ra 1000 rc] 26)).alloc (.cells #[.int .i64 0, .int .i64 16, .slice f2 fn2 fc2, .int .u16 (av2 : Nat), .int .u16 0, .slice x2 xn2 xc2] 30)) := (Below.refl _ _).alloc (Nat.le_refl _) _
   replace Rm := Lib.hid (row_keep Rm.out hbx)
   replace Rq := Lib.hid (row_keep Rq.out hbx)
   replace Rd := Lib.hid (row_keep Rd.out hbx)
   replace Am := Lib.hid (Am.out.below hbx)
   replace Qm := Lib.hid (Qm.out.below hbx)
   replace BW := Lib.hid (BW.out.trans (hbx.mono BW.out.size))
   replace BF := Lib.hid (BF.out.below hbx)
   replace Ab := Lib.hid (Ab.out.below hbx)
   replace Qb := Lib.hid (Qb.out.below hbx)
   replace Rn := Lib.hid (row_keep Rn.out hbx)
   have Rp := Lib.hid (heap_alloc_new ((w3).alloc (.cells #[.slice ra 1000 rc] 26)) (.cells #[.int .i64 0, .int .i64 16, .slice f2 fn2 fc2, .int .u16 (av2 : Nat), .int .u16 0, .slice x2 xn2 xc2] 30))
   clear hbx
   have hsz : ((w3).alloc (.cells #[.slice ra 1000 rc] 26)).heap.size = w3.heap.size + 1 := by simp
   rw [hsz] at Rp
   clear hsz
   obtain ⟨lRn0c33, zRn0c33⟩ := at_cell Rn.out 0 _ rfl
   clear zRn0c33
   obtain ⟨lRd0c34, zRd0c34⟩ := at_cell Rd.out 0 _ rfl
   clear zRd0c34
   obtain ⟨lRd1c35, zRd1c35⟩ := at_cell Rd.out 1 _ rfl
   clear zRd1c35
   obtain ⟨lRd2c36, zRd2c36⟩ := at_cell Rd.out 2 _ rfl
   clear zRd2c36
   obtain ⟨lRd3c37, zRd3c37⟩ := at_cell Rd.out 3 _ rfl
   clear zRd3c37
   go_wp2_with fail
   refine (next16_this _ G2 bs av av2 m H _ Ab.out HFD.out HBI.out HBL.out HM1.out HM4.out).mono ?_
   rintro e w4 ⟨pa, pc, rfl, hp, hb⟩
   clear lRn0c33 lRd0c34 lRd1c35 lRd2c36 lRd3c37
   replace Rm := Lib.hid (row_keep Rm.out hb)
   replace Rq := Lib.hid (row_keep Rq.out hb)
   replace Rd := Lib.hid (row_keep Rd.out hb)
   replace Am := Lib.hid (Am.out.below hb)
   replace Qm := Lib.hid (Qm.out.below hb)
   replace BW := Lib.hid (BW.out.trans (hb.mono BW.out.size))
   replace BF := Lib.hid (BF.out.below hb)
   replace Ab := Lib.hid (Ab.out.below hb)
   replace Qb := Lib.hid (Qb.out.below hb)
   replace Rn := Lib.hid (row_keep Rn.out hb)
   replace Rp := Lib.hid (row_keep Rp.out hb)
   have Pa := Lib.hid hp
   clear hp
   clear hb
   have HRD := Lib.hid ((Array.getElem?_eq_some_iff.1 Rd.out).1)
   have hbx : Below (w4).heap.size (w4) ((w4).alloc (.cells #[.int .i64 0, .int .i64 16, .int .u16 (av2 : Nat), .int .u16 0] 35)) := (Below.refl _ _).alloc (Nat.le_refl _) _
   replace Rm := Lib.hid (row_keep Rm.out hbx)
   replace Rq := Lib.hid (row_keep Rq.out hbx)
   replace Rd := Lib.hid (row_keep Rd.out hbx)
   replace Am := Lib.hid (Am.out.below hbx)
   replace Qm := Lib.hid (Qm.out.below hbx)
   replace BW := Lib.hid (BW.out.trans (hbx.mono BW.out.size))
   replace BF := Lib.hid (BF.out.below hbx)
   replace Ab := Lib.hid (Ab.out.below hbx)
   replace Qb := Lib.hid (Qb.out.below hbx)
   replace Rn := Lib.hid (row_keep Rn.out hbx)
   replace Rp := Lib.hid (row_keep Rp.out hbx)
   replace Pa := Lib.hid (Pa.out.below hbx)
   have Rx := Lib.hid (heap_alloc_new (w4) (.cells #[.int .i64 0, .int .i64 16, .int .u16 (av2 : Nat), .int .u16 0] 35))
   clear hbx
   go_wp2_with fail
   refine (bufs_any 0 w.heap.size _ _ bs _ Pa.out BF.out (by have := HBL.out; have := HM4.out; omega)).mono ?_
   rintro e w5 ⟨rfl, hb⟩
   replace Rm := Lib.hid (row_keep Rm.out hb)
   replace Rq := Lib.hid (row_keep Rq.out hb)
   replace Rd := Lib.hid (row_keep Rd.out hb)
   replace Am := Lib.hid (Am.out.below hb)
   replace Qm := Lib.hid (Qm.out.below hb)
   replace BW := Lib.hid (BW.out.trans (hb.mono BW.out.size))
   replace BF := Lib.hid (BF.out.below hb)
   replace Ab := Lib.hid (Ab.out.below hb)
   replace Qb := Lib.hid (Qb.out.below hb)
   replace Rn := Lib.hid (row_keep Rn.out hb)
   replace Rp := Lib.hid (row_keep Rp.out hb)
   replace Pa := Lib.hid (Pa.out.below hb)
   replace Rx := Lib.hid (row_keep Rx.out hb)
   clear hb
   have hw1 : IntKind.i64.wrap (((fn : Nat) : Int) - ((m : Nat) : Int)) = ((fn2 : Nat) : Int) := by have h1 := HFE.out; have h2 := HFR.out; simp [IntKind.wrap, IntKind.bits, IntKind.signed]; omega
   have hw2 : ((fn : Nat) : Int) - ((m : Nat) : Int) = ((fn2 : Nat) : Int) := by have h1 := HFE.out; omega
   have hfn2 : fn2 ≤ 16 := by have h1 := HFE.out; have h2 := HFR.out; omega
   go_wp2_with fail
   clear hw1 hw2 d4 d6
   obtain ⟨wx, hwx⟩ : ∃ x, x = w5 := ⟨_, rfl⟩
   rw [← hwx] at Rm Rq Rd Am Qm BW BF Ab Qb Rn Rp Pa Rx ⊢
   clear hwx
   refine wp_region_rec (X := QueCaA) (by kernel_rfl) (by kernel_rfl) (fun x => #[x.b0, x.b1, x.b2, x.b3, x.b4, x.b5]) (fun x => { tmps := List.toArray ((.slice va vn vc) :: (.int .i64 (m : Nat)) :: undef :: undef :: u4 :: (.pointer (some ⟨w1.heap.size, 0, none⟩)) :: (.pointer (some ⟨w1.heap.size + 1, 0, none⟩)) :: (.int .i64 0) :: (.pointer (some ⟨w2.heap.size, 0, none⟩)) :: (.int .i64 (fn2 : Nat)) :: (.int .i64 (r : Nat)) :: (.slice ba m bc) :: (.int .i64 (m : Nat)) :: (.pointer (some ⟨w3.heap.size, 0, none⟩)) :: (.pointer (some ⟨w3.heap.size + 1, 0, none⟩)) :: (.int .i64 H) :: (.int .i64 0) :: (.pointer (some ⟨w4.heap.size, 0, none⟩)) :: (.int .i64 H) :: (.slice pa m pc) :: (.int .i64 0) :: (.slice va vn vc) :: (.int .i64 (vn : Nat)) :: (.bool false) :: (.bool false) :: (.int .i64 (m : Nat)) :: (.bool false) :: (.bool false) :: (.bool false) :: (.int .i64 (m : Nat)) :: (.bool false) :: (.bool false) :: undef :: (.tuple #[.agg #[.slice aa 1000 ca], .agg #[.int .i64 0, .int .i64 16, .slice fa0 16 fc0, .int .u16 0, .int .u16 0, .slice xa0 0 xc0], .int .i64 0]) :: (.slice (some ⟨w.heap.size, 0, none⟩) 1000 1000) :: (.agg #[.slice (some ⟨w.heap.size, 0, none⟩) 1000 1000]) :: (.tuple #[.agg #[.slice aa 1000 ca], .agg #[.int .i64 0, .int .i64 16, .slice fa0 16 fc0, .int .u16 0, .int .u16 0, .slice xa0 0 xc0], .int .i64 0]) :: (.agg #[.slice aa 1000 ca]) :: (.agg #[.int .i64 0, .int .i64 16, .slice fa0 16 fc0, .int .u16 0, .int .u16 0, .slice xa0 0 xc0]) :: (.int .i64 0) :: (.agg #[.int .i64 0, .int .i64 16, .int .u16 0, .int .u16 0]) :: (.int .i64 0) :: (.bool false) :: (.int .i64 (r : Nat)) :: (.int .i64 (m : Nat)) :: (.int .i64 ((r : Nat) + (m : Nat))) :: (.slice va vn vc) :: (.int .i64 (vn : Nat)) :: (.bool true) :: u49 :: u50 :: u51 :: (.int .i64 (m : Nat)) :: (.int .i64 (m : Nat)) :: (.bool false) :: u55 :: u56 :: u57 :: u58 :: u59 :: u60 :: u61 :: u62 :: u63 :: u64 :: u65 :: u66 :: u67 :: u68 :: u69 :: u70 :: u71 :: u72 :: u73 :: u74 :: u75 :: u76 :: u77 :: u78 :: u79 :: (.tuple #[.agg #[.slice ra 1000 rc], .agg #[.int .i64 0, .int .i64 16, .slice f2 fn2 fc2, .int .u16 (av2 : Nat), .int .u16 0, .slice x2 xn2 xc2], .int .i64 H, .int .i64 0]) :: (.agg #[.slice am 1000 cm]) :: (.agg #[.int .i64 0, .int .i64 16, .slice fm fn fc, .int .u16 (av : Nat), .int .u16 0, .slice xm xn xc]) :: (.slice ba m bc) :: (.tuple #[.agg #[.slice ra 1000 rc], .agg #[.int .i64 0, .int .i64 16, .slice f2 fn2 fc2, .int .u16 (av2 : Nat), .int .u16 0, .slice x2 xn2 xc2], .int .i64 H, .int .i64 0]) :: (.agg #[.slice ra 1000 rc]) :: (.agg #[.int .i64 0, .int .i64 16, .slice f2 fn2 fc2, .int .u16 (av2 : Nat), .int .u16 0, .slice x2 xn2 xc2]) :: (.int .i64 H) :: (.int .i64 0) :: (.int .i64 0) :: (.bool false) :: u91 :: u92 :: u93 :: u94 :: u95 :: u96 :: u97 :: u98 :: u99 :: u100 :: u101 :: u102 :: u103 :: u104 :: u105 :: (.tuple #[.agg #[.int .i64 0, .int .i64 16, .int .u16 (av2 : Nat), .int .u16 0], .int .i64 H, .slice pa m pc, .int .i64 0]) :: (.agg #[.slice ra 1000 rc]) :: (.agg #[.int .i64 0, .int .i64 16, .int .u16 (av : Nat), .int .u16 0]) :: (.tuple #[.agg #[.int .i64 0, .int .i64 16, .int .u16 (av2 : Nat), .int .u16 0], .int .i64 H, .slice pa m pc, .int .i64 0]) :: (.agg #[.int .i64 0, .int .i64 16, .int .u16 (av2 : Nat), .int .u16 0]) :: (.int .i64 H) :: (.slice pa m pc) :: (.int .i64 0) :: (.int .i64 0) :: (.bool false) :: (.bool false) :: (.int .i64 H) :: (.int .i64 H) :: (.bool false) :: (.bool false) :: (.bool false) :: (.slice pa m pc) :: (.slice ba m bc) :: (.bool true) :: (.bool false) :: (.bool false) :: (.bool false) :: (.int .i64 (fn : Nat)) :: (.int .i64 (m : Nat)) :: (.bool (false)) :: (.bool (false)) :: (.int .i64 (fn : Nat)) :: (.int .i64 (m : Nat)) :: (.int .i64 (fn2 : Nat)) :: x.s135 :: x.s136 :: x.s137 :: undef :: undef :: undef :: undef :: undef :: undef :: undef :: undef :: []), defers := [] }) (fun x W => (x.b0 = true → x.s135 = .agg #[.slice ra 1000 rc]) ∧ (x.b1 = true → x.s136 = .agg #[.int .i64 0, .int .i64 16, .slice f2 fn2 fc2, .int .u16 (av2 : Nat), .int .u16 0, .slice x2 xn2 xc2]) ∧ (x.b2 = true → x.s137 = .agg #[.int .i64 0, .int .i64 16, .int .u16 (av2 : Nat), .int .u16 0]) ∧ (x.b4 = true → x.b3 = true) ∧ (x.b5 = true → x.b3 = true ∧ x.b4 = true) ∧ (W.heap[w3.heap.size]? = some (.cells #[.slice ra 1000 rc] 26 (0, 0))) ∧ (W.heap[w3.heap.size + 1]? = some (.cells #[.int .i64 0, .int .i64 16, .slice f2 fn2 fc2, .int .u16 (av2 : Nat), .int .u16 0, .slice x2 xn2 xc2] 30 (0, 0))) ∧ (W.heap[w4.heap.size]? = some (.cells #[.int .i64 0, .int .i64 16, .int .u16 (av2 : Nat), .int .u16 0] 35 (0, 0))) ∧ (x.b3 = false → W.heap[w1.heap.size]? = some (.cells #[.slice am 1000 cm] 26 (0, 0))) ∧ (x.b3 = true → W.heap[w1.heap.size]? = some (.cells #[.slice ra 1000 rc] 26 (0, 0))) ∧ (x.b4 = false → W.heap[w1.heap.size + 1]? = some (.cells #[.int .i64 0, .int .i64 16, .slice fm fn fc, .int .u16 (av : Nat), .int .u16 0, .slice xm xn xc] 30 (0, 0))) ∧ (x.b4 = true → W.heap[w1.heap.size + 1]? = some (.cells #[.int .i64 0, .int .i64 16, .slice f2 fn2 fc2, .int .u16 (av2 : Nat), .int .u16 0, .slice x2 xn2 xc2] 30 (0, 0))) ∧ (x.b5 = false → W.heap[w2.heap.size]? = some (.cells #[.int .i64 0, .int .i64 16, .int .u16 (av : Nat), .int .u16 0] 35 (0, 0))) ∧ (x.b5 = true → W.heap[w2.heap.size]? = some (.cells #[.int .i64 0, .int .i64 16, .int .u16 (av2 : Nat), .int .u16 0] 35 (0, 0))) ∧ (Below w.heap.size w W) ∧ (OwnB 0 W (.slice ra 1000 rc) G2) ∧ (HC W f2 fn2 fc2 x2 xn2 xc2 av2 q2)) ⟨false, false, false, false, false, false, u135, u136, u137⟩ rfl rfl ⟨(fun h => by cases h), (fun h => by cases h), (fun h => by cases h), (fun h => by cases h), (fun h => by cases h), Rn.out, Rp.out, Rx.out, (fun _ => Rm.out), (fun h => by cases h), (fun _ => Rq.out), (fun h => by cases h), (fun _ => Rd.out), (fun h => by cases h), BW.out.drew, Ab.out.drew, Qb.out.drew⟩ (fun _ => rfl) ?hstep ?hdone
   case hstep =>
    rintro ⟨b0, b1, b2, b3, b4, b5, s135, s136, s137⟩ W hI i hi
    dsimp only at hI hi ⊢
    have HI := Lib.hid hI
    clear hI
    rw [Region.ready, List.mem_filter, List.mem_range] at hi
    obtain ⟨hlt, hp⟩ := hi
    have hi7 : i = 0 ∨ i = 1 ∨ i = 2 ∨ i = 3 ∨ i = 4 ∨ i = 5 := by simp at hlt; omega
    clear hlt
    rcases hi7 with rfl | rfl | rfl | rfl | rfl | rfl
    all_goals simp [Region.binds] at hp
    · obtain rfl : b0 = false := by revert hp; cases b0 <;> simp
      clear hp
      refine inv_op (o := ⟨some 135, _, _, _, _, _⟩) rfl (fun K' hK' => ?_)
      have rN := HI.out.2.2.2.2.2.1
      obtain ⟨hc0, _⟩ := at_cell rN 0 _ rfl
      go_simp
      exact hK'.out _ _ ⟨.mk .., rfl, rfl, (Upd (fun _ => rfl)) HI.out⟩
    · obtain rfl : b1 = false := by revert hp; cases b1 <;> simp
      clear hp
      refine inv_op (o := ⟨some 136, _, _, _, _, _⟩) rfl (fun K' hK' => ?_)
      have rP := HI.out.2.2.2.2.2.2.1
      obtain ⟨hc0, _⟩ := at_cell rP 0 _ rfl
      obtain ⟨hc1, _⟩ := at_cell rP 1 _ rfl
      obtain ⟨hc2, _⟩ := at_cell rP 2 _ rfl
      obtain ⟨hc3, _⟩ := at_cell rP 3 _ rfl
      obtain ⟨hc4, _⟩ := at_cell rP 4 _ rfl
      obtain ⟨hc5, _⟩ := at_cell rP 5 _ rfl
      go_simp
      exact hK'.out _ _ ⟨.mk .., rfl, rfl, Nxt (Upd (fun _ => rfl)) HI.out⟩
    · obtain rfl : b2 = false := by revert hp; cases b2 <;> simp
      clear hp
      refine inv_op (o := ⟨some 137, _, _, _, _, _⟩) rfl (fun K' hK' => ?_)
      have rX := HI.out.2.2.2.2.2.2.2.1
      obtain ⟨hc0, _⟩ := at_cell rX 0 _ rfl
      obtain ⟨hc1, _⟩ := at_cell rX 1 _ rfl
      obtain ⟨hc2, _⟩ := at_cell rX 2 _ rfl
      obtain ⟨hc3, _⟩ := at_cell rX 3 _ rfl
      go_simp
      exact hK'.out _ _ ⟨.mk .., rfl, rfl, Nxt (Nxt (Upd (fun _ => rfl))) HI.out⟩
    · obtain ⟨rfl, e0⟩ : b3 = false ∧ b0 = true := by revert hp; cases b3 <;> cases b0 <;> simp
      clear hp
      obtain rfl := (HI.out.1) e0
      refine inv_op (o := ⟨none, _, _, _, _, _⟩) rfl (fun K' hK' => ?_)
      have gi4 := HI.out.2.2.2.1
      have gi5 := HI.out.2.2.2.2.1
      have rM0 := HI.out.2.2.2.2.2.2.2.2.1
      have hbf4 : b4 = false := by cases b4 with | false => rfl | true => exact absurd ((gi4 rfl)) (by decide)
      subst hbf4
      have hbf5 : b5 = false := by cases b5 with | false => rfl | true => exact absurd ((gi5 rfl).1) (by decide)
      subst hbf5
      obtain ⟨hc0, hz0⟩ := at_cell (rM0 rfl) 0 _ rfl
      have hlt := (Array.getElem?_eq_some_iff.1 (rM0 rfl)).1
      go_simp
      obtain ⟨h0, h1, h2, gi4, gi5, rN, rP, rX, rM0, rM1, rQ0, rQ1, rD0, rD1, gB, gO, gI⟩ := HI.out
      exact hK'.out _ _ ⟨.mk .., rfl, rfl, h0, h1, h2, (fun e => by cases e), (fun e => by cases e), (one_other rN ⟨w1.heap.size, 0, none⟩ (.slice ra 1000 rc) (show w1.heap.size ≠ w3.heap.size from Nat.ne_of_lt HRM.out)), (one_other rP ⟨w1.heap.size, 0, none⟩ (.slice ra 1000 rc) (blocks_ne rP (rM0 rfl) (by decide))), (one_other rX ⟨w1.heap.size, 0, none⟩ (.slice ra 1000 rc) (blocks_ne rX (rM0 rfl) (by decide))), (fun e => by cases e), (fun _ => (row_put (rM0 rfl) 0 (.slice ra 1000 rc))), (fun e => (one_other (rQ0 e) ⟨w1.heap.size, 0, none⟩ (.slice ra 1000 rc) (blocks_ne (rQ0 e) (rM0 rfl) (by decide)))), (fun e => by cases e), (fun e => (one_other (rD0 e) ⟨w1.heap.size, 0, none⟩ (.slice ra 1000 rc) (blocks_ne (rD0 e) (rM0 rfl) (by decide)))), (fun e => by cases e), (gB.setCell (p := ⟨w1.heap.size, 0, none⟩) HS1.out (.slice ra 1000 rc)), (gO.stay (rM0 rfl) (by decide) 0 (.slice ra 1000 rc)), (gI.stay (rM0 rfl) (by decide) (by decide) 0 (.slice ra 1000 rc))⟩
    · obtain ⟨rfl, e1, e3⟩ : b4 = false ∧ b1 = true ∧ b3 = true := by revert hp; cases b4 <;> cases b1 <;> cases b3 <;> simp
      clear hp
      obtain rfl := (HI.out.2.1) e1
      refine inv_op (o := ⟨none, _, _, _, _, _⟩) rfl (fun K' hK' => ?_)
      have gi5 := HI.out.2.2.2.2.1
      have rQ0 := HI.out.2.2.2.2.2.2.2.2.2.2.1
      have hbf5 : b5 = false := by cases b5 with | false => rfl | true => exact absurd ((gi5 rfl).2) (by decide)
      subst hbf5
      obtain ⟨hc0, hz0⟩ := at_cell (rQ0 rfl) 0 _ rfl
      obtain ⟨hc1, hz1⟩ := at_cell (rQ0 rfl) 1 _ rfl
      obtain ⟨hc2, hz2⟩ := at_cell (rQ0 rfl) 2 _ rfl
      obtain ⟨hc3, hz3⟩ := at_cell (rQ0 rfl) 3 _ rfl
      obtain ⟨hc4, hz4⟩ := at_cell (rQ0 rfl) 4 _ rfl
      obtain ⟨hc5, hz5⟩ := at_cell (rQ0 rfl) 5 _ rfl
      have hlt := (Array.getElem?_eq_some_iff.1 (rQ0 rfl)).1
      go_simp
      obtain ⟨h0, h1, h2, gi4, gi5, rN, rP, rX, rM0, rM1, rQ0, rQ1, rD0, rD1, gB, gO, gI⟩ := HI.out
      exact hK'.out _ _ ⟨.mk .., rfl, rfl, h0, h1, h2, (fun _ => e3), (fun e => by cases e), (one_other (one_other (one_other (one_other (one_other (one_other rN ⟨w1.heap.size + 1, 0, none⟩ (.int .i64 0) (blocks_ne rN (rQ0 rfl) (by decide))) ⟨w1.heap.size + 1, 1, none⟩ (.int .i64 16) (blocks_ne rN (rQ0 rfl) (by decide))) ⟨w1.heap.size + 1, 2, none⟩ (.slice f2 fn2 fc2) (blocks_ne rN (rQ0 rfl) (by decide))) ⟨w1.heap.size + 1, 3, none⟩ (.int .u16 (av2 : Nat)) (blocks_ne rN (rQ0 rfl) (by decide))) ⟨w1.heap.size + 1, 4, none⟩ (.int .u16 0) (blocks_ne rN (rQ0 rfl) (by decide))) ⟨w1.heap.size + 1, 5, none⟩ (.slice x2 xn2 xc2) (blocks_ne rN (rQ0 rfl) (by decide))), (one_other (one_other (one_other (one_other (one_other (one_other rP ⟨w1.heap.size + 1, 0, none⟩ (.int .i64 0) (show w1.heap.size + 1 ≠ w3.heap.size + 1 from Nat.ne_of_lt (Nat.lt_succ_of_lt HRQ.out))) ⟨w1.heap.size + 1, 1, none⟩ (.int .i64 16) (show w1.heap.size + 1 ≠ w3.heap.size + 1 from Nat.ne_of_lt (Nat.lt_succ_of_lt HRQ.out))) ⟨w1.heap.size + 1, 2, none⟩ (.slice f2 fn2 fc2) (show w1.heap.size + 1 ≠ w3.heap.size + 1 from Nat.ne_of_lt (Nat.lt_succ_of_lt HRQ.out))) ⟨w1.heap.size + 1, 3, none⟩ (.int .u16 (av2 : Nat)) (show w1.heap.size + 1 ≠ w3.heap.size + 1 from Nat.ne_of_lt (Nat.lt_succ_of_lt HRQ.out))) ⟨w1.heap.size + 1, 4, none⟩ (.int .u16 0) (show w1.heap.size + 1 ≠ w3.heap.size + 1 from Nat.ne_of_lt (Nat.lt_succ_of_lt HRQ.out))) ⟨w1.heap.size + 1, 5, none⟩ (.slice x2 xn2 xc2) (show w1.heap.size + 1 ≠ w3.heap.size + 1 from Nat.ne_of_lt (Nat.lt_succ_of_lt HRQ.out))), (one_other (one_other (one_other (one_other (one_other (one_other rX ⟨w1.heap.size + 1, 0, none⟩ (.int .i64 0) (blocks_ne rX (rQ0 rfl) (by decide))) ⟨w1.heap.size + 1, 1, none⟩ (.int .i64 16) (blocks_ne rX (rQ0 rfl) (by decide))) ⟨w1.heap.size + 1, 2, none⟩ (.slice f2 fn2 fc2) (blocks_ne rX (rQ0 rfl) (by decide))) ⟨w1.heap.size + 1, 3, none⟩ (.int .u16 (av2 : Nat)) (blocks_ne rX (rQ0 rfl) (by decide))) ⟨w1.heap.size + 1, 4, none⟩ (.int .u16 0) (blocks_ne rX (rQ0 rfl) (by decide))) ⟨w1.heap.size + 1, 5, none⟩ (.slice x2 xn2 xc2) (blocks_ne rX (rQ0 rfl) (by decide))), (fun e => (one_other (one_other (one_other (one_other (one_other (one_other (rM0 e) ⟨w1.heap.size + 1, 0, none⟩ (.int .i64 0) (blocks_ne (rM0 e) (rQ0 rfl) (by decide))) ⟨w1.heap.size + 1, 1, none⟩ (.int .i64 16) (blocks_ne (rM0 e) (rQ0 rfl) (by decide))) ⟨w1.heap.size + 1, 2, none⟩ (.slice f2 fn2 fc2) (blocks_ne (rM0 e) (rQ0 rfl) (by decide))) ⟨w1.heap.size + 1, 3, none⟩ (.int .u16 (av2 : Nat)) (blocks_ne (rM0 e) (rQ0 rfl) (by decide))) ⟨w1.heap.size + 1, 4, none⟩ (.int .u16 0) (blocks_ne (rM0 e) (rQ0 rfl) (by decide))) ⟨w1.heap.size + 1, 5, none⟩ (.slice x2 xn2 xc2) (blocks_ne (rM0 e) (rQ0 rfl) (by decide)))), (fun e => (one_other (one_other (one_other (one_other (one_other (one_other (rM1 e) ⟨w1.heap.size + 1, 0, none⟩ (.int .i64 0) (blocks_ne (rM1 e) (rQ0 rfl) (by decide))) ⟨w1.heap.size + 1, 1, none⟩ (.int .i64 16) (blocks_ne (rM1 e) (rQ0 rfl) (by decide))) ⟨w1.heap.size + 1, 2, none⟩ (.slice f2 fn2 fc2) (blocks_ne (rM1 e) (rQ0 rfl) (by decide))) ⟨w1.heap.size + 1, 3, none⟩ (.int .u16 (av2 : Nat)) (blocks_ne (rM1 e) (rQ0 rfl) (by decide))) ⟨w1.heap.size + 1, 4, none⟩ (.int .u16 0) (blocks_ne (rM1 e) (rQ0 rfl) (by decide))) ⟨w1.heap.size + 1, 5, none⟩ (.slice x2 xn2 xc2) (blocks_ne (rM1 e) (rQ0 rfl) (by decide)))), (fun e => by cases e), (fun _ => (row_put (row_put (row_put (row_put (row_put (row_put (rQ0 rfl) 0 (.int .i64 0)) 1 (.int .i64 16)) 2 (.slice f2 fn2 fc2)) 3 (.int .u16 (av2 : Nat))) 4 (.int .u16 0)) 5 (.slice x2 xn2 xc2))), (fun e => (one_other (one_other (one_other (one_other (one_other (one_other (rD0 e) ⟨w1.heap.size + 1, 0, none⟩ (.int .i64 0) (blocks_ne (rD0 e) (rQ0 rfl) (by decide))) ⟨w1.heap.size + 1, 1, none⟩ (.int .i64 16) (blocks_ne (rD0 e) (rQ0 rfl) (by decide))) ⟨w1.heap.size + 1, 2, none⟩ (.slice f2 fn2 fc2) (blocks_ne (rD0 e) (rQ0 rfl) (by decide))) ⟨w1.heap.size + 1, 3, none⟩ (.int .u16 (av2 : Nat)) (blocks_ne (rD0 e) (rQ0 rfl) (by decide))) ⟨w1.heap.size + 1, 4, none⟩ (.int .u16 0) (blocks_ne (rD0 e) (rQ0 rfl) (by decide))) ⟨w1.heap.size + 1, 5, none⟩ (.slice x2 xn2 xc2) (blocks_ne (rD0 e) (rQ0 rfl) (by decide)))), (fun e => by cases e), ((((((gB.setCell (p := ⟨w1.heap.size + 1, 0, none⟩) (by show w.heap.size ≤ w1.heap.size + 1; have := HS1.out; omega) (.int .i64 0)).setCell (p := ⟨w1.heap.size + 1, 1, none⟩) (by show w.heap.size ≤ w1.heap.size + 1; have := HS1.out; omega) (.int .i64 16)).setCell (p := ⟨w1.heap.size + 1, 2, none⟩) (by show w.heap.size ≤ w1.heap.size + 1; have := HS1.out; omega) (.slice f2 fn2 fc2)).setCell (p := ⟨w1.heap.size + 1, 3, none⟩) (by show w.heap.size ≤ w1.heap.size + 1; have := HS1.out; omega) (.int .u16 (av2 : Nat))).setCell (p := ⟨w1.heap.size + 1, 4, none⟩) (by show w.heap.size ≤ w1.heap.size + 1; have := HS1.out; omega) (.int .u16 0)).setCell (p := ⟨w1.heap.size + 1, 5, none⟩) (by show w.heap.size ≤ w1.heap.size + 1; have := HS1.out; omega) (.slice x2 xn2 xc2)), ((((((gO.stay (rQ0 rfl) (by decide) 0 (.int .i64 0)).stay (row_put (rQ0 rfl) 0 (.int .i64 0)) (by decide) 1 (.int .i64 16)).stay (row_put (row_put (rQ0 rfl) 0 (.int .i64 0)) 1 (.int .i64 16)) (by decide) 2 (.slice f2 fn2 fc2)).stay (row_put (row_put (row_put (rQ0 rfl) 0 (.int .i64 0)) 1 (.int .i64 16)) 2 (.slice f2 fn2 fc2)) (by decide) 3 (.int .u16 (av2 : Nat))).stay (row_put (row_put (row_put (row_put (rQ0 rfl) 0 (.int .i64 0)) 1 (.int .i64 16)) 2 (.slice f2 fn2 fc2)) 3 (.int .u16 (av2 : Nat))) (by decide) 4 (.int .u16 0)).stay (row_put (row_put (row_put (row_put (row_put (rQ0 rfl) 0 (.int .i64 0)) 1 (.int .i64 16)) 2 (.slice f2 fn2 fc2)) 3 (.int .u16 (av2 : Nat))) 4 (.int .u16 0)) (by decide) 5 (.slice x2 xn2 xc2)), ((((((gI.stay (rQ0 rfl) (by decide) (by decide) 0 (.int .i64 0)).stay (row_put (rQ0 rfl) 0 (.int .i64 0)) (by decide) (by decide) 1 (.int .i64 16)).stay (row_put (row_put (rQ0 rfl) 0 (.int .i64 0)) 1 (.int .i64 16)) (by decide) (by decide) 2 (.slice f2 fn2 fc2)).stay (row_put (row_put (row_put (rQ0 rfl) 0 (.int .i64 0)) 1 (.int .i64 16)) 2 (.slice f2 fn2 fc2)) (by decide) (by decide) 3 (.int .u16 (av2 : Nat))).stay (row_put (row_put (row_put (row_put (rQ0 rfl) 0 (.int .i64 0)) 1 (.int .i64 16)) 2 (.slice f2 fn2 fc2)) 3 (.int .u16 (av2 : Nat))) (by decide) (by decide) 4 (.int .u16 0)).stay (row_put (row_put (row_put (row_put (row_put (rQ0 rfl) 0 (.int .i64 0)) 1 (.int .i64 16)) 2 (.slice f2 fn2 fc2)) 3 (.int .u16 (av2 : Nat))) 4 (.int .u16 0)) (by decide) (by decide) 5 (.slice x2 xn2 xc2))⟩
    · have hn5 : b5 = false := by revert hp; cases b5 <;> simp
      have e2 : b2 = true := by revert hp; cases b2 <;> simp
      have e4 : b4 = true := by revert hp; cases b4 <;> simp
      have e3 : b3 = true := by revert hp; cases b3 <;> simp
      clear hp
      obtain rfl := (HI.out.2.2.1) e2
      subst hn5
      refine inv_op (o := ⟨none, _, _, _, _, _⟩) rfl (fun K' hK' => ?_)
      have rD0 := HI.out.2.2.2.2.2.2.2.2.2.2.2.2.1
      obtain ⟨hc0, hz0⟩ := at_cell (rD0 rfl) 0 _ rfl
      obtain ⟨hc1, hz1⟩ := at_cell (rD0 rfl) 1 _ rfl
      obtain ⟨hc2, hz2⟩ := at_cell (rD0 rfl) 2 _ rfl
      obtain ⟨hc3, hz3⟩ := at_cell (rD0 rfl) 3 _ rfl
      have hlt := (Array.getElem?_eq_some_iff.1 (rD0 rfl)).1
      go_simp
      obtain ⟨h0, h1, h2, gi4, gi5, rN, rP, rX, rM0, rM1, rQ0, rQ1, rD0, rD1, gB, gO, gI⟩ := HI.out
      exact hK'.out _ _ ⟨.mk .., rfl, rfl, h0, h1, h2, gi4, (fun _ => ⟨e3, e4⟩), (one_other (one_other (one_other (one_other rN ⟨w2.heap.size, 0, none⟩ (.int .i64 0) (blocks_ne rN (rD0 rfl) (by decide))) ⟨w2.heap.size, 1, none⟩ (.int .i64 16) (blocks_ne rN (rD0 rfl) (by decide))) ⟨w2.heap.size, 2, none⟩ (.int .u16 (av2 : Nat)) (blocks_ne rN (rD0 rfl) (by decide))) ⟨w2.heap.size, 3, none⟩ (.int .u16 0) (blocks_ne rN (rD0 rfl) (by decide))), (one_other (one_other (one_other (one_other rP ⟨w2.heap.size, 0, none⟩ (.int .i64 0) (blocks_ne rP (rD0 rfl) (by decide))) ⟨w2.heap.size, 1, none⟩ (.int .i64 16) (blocks_ne rP (rD0 rfl) (by decide))) ⟨w2.heap.size, 2, none⟩ (.int .u16 (av2 : Nat)) (blocks_ne rP (rD0 rfl) (by decide))) ⟨w2.heap.size, 3, none⟩ (.int .u16 0) (blocks_ne rP (rD0 rfl) (by decide))), (one_other (one_other (one_other (one_other rX ⟨w2.heap.size, 0, none⟩ (.int .i64 0) (show w2.heap.size ≠ w4.heap.size from Nat.ne_of_lt HRD.out)) ⟨w2.heap.size, 1, none⟩ (.int .i64 16) (show w2.heap.size ≠ w4.heap.size from Nat.ne_of_lt HRD.out)) ⟨w2.heap.size, 2, none⟩ (.int .u16 (av2 : Nat)) (show w2.heap.size ≠ w4.heap.size from Nat.ne_of_lt HRD.out)) ⟨w2.heap.size, 3, none⟩ (.int .u16 0) (show w2.heap.size ≠ w4.heap.size from Nat.ne_of_lt HRD.out)), (fun e => (one_other (one_other (one_other (one_other (rM0 e) ⟨w2.heap.size, 0, none⟩ (.int .i64 0) (blocks_ne (rM0 e) (rD0 rfl) (by decide))) ⟨w2.heap.size, 1, none⟩ (.int .i64 16) (blocks_ne (rM0 e) (rD0 rfl) (by decide))) ⟨w2.heap.size, 2, none⟩ (.int .u16 (av2 : Nat)) (blocks_ne (rM0 e) (rD0 rfl) (by decide))) ⟨w2.heap.size, 3, none⟩ (.int .u16 0) (blocks_ne (rM0 e) (rD0 rfl) (by decide)))), (fun e => (one_other (one_other (one_other (one_other (rM1 e) ⟨w2.heap.size, 0, none⟩ (.int .i64 0) (blocks_ne (rM1 e) (rD0 rfl) (by decide))) ⟨w2.heap.size, 1, none⟩ (.int .i64 16) (blocks_ne (rM1 e) (rD0 rfl) (by decide))) ⟨w2.heap.size, 2, none⟩ (.int .u16 (av2 : Nat)) (blocks_ne (rM1 e) (rD0 rfl) (by decide))) ⟨w2.heap.size, 3, none⟩ (.int .u16 0) (blocks_ne (rM1 e) (rD0 rfl) (by decide)))), (fun e => (one_other (one_other (one_other (one_other (rQ0 e) ⟨w2.heap.size, 0, none⟩ (.int .i64 0) (blocks_ne (rQ0 e) (rD0 rfl) (by decide))) ⟨w2.heap.size, 1, none⟩ (.int .i64 16) (blocks_ne (rQ0 e) (rD0 rfl) (by decide))) ⟨w2.heap.size, 2, none⟩ (.int .u16 (av2 : Nat)) (blocks_ne (rQ0 e) (rD0 rfl) (by decide))) ⟨w2.heap.size, 3, none⟩ (.int .u16 0) (blocks_ne (rQ0 e) (rD0 rfl) (by decide)))), (fun e => (one_other (one_other (one_other (one_other (rQ1 e) ⟨w2.heap.size, 0, none⟩ (.int .i64 0) (blocks_ne (rQ1 e) (rD0 rfl) (by decide))) ⟨w2.heap.size, 1, none⟩ (.int .i64 16) (blocks_ne (rQ1 e) (rD0 rfl) (by decide))) ⟨w2.heap.size, 2, none⟩ (.int .u16 (av2 : Nat)) (blocks_ne (rQ1 e) (rD0 rfl) (by decide))) ⟨w2.heap.size, 3, none⟩ (.int .u16 0) (blocks_ne (rQ1 e) (rD0 rfl) (by decide)))), (fun e => by cases e), (fun _ => (row_put (row_put (row_put (row_put (rD0 rfl) 0 (.int .i64 0)) 1 (.int .i64 16)) 2 (.int .u16 (av2 : Nat))) 3 (.int .u16 0))), ((((gB.setCell (p := ⟨w2.heap.size, 0, none⟩) HS2.out (.int .i64 0)).setCell (p := ⟨w2.heap.size, 1, none⟩) HS2.out (.int .i64 16)).setCell (p := ⟨w2.heap.size, 2, none⟩) HS2.out (.int .u16 (av2 : Nat))).setCell (p := ⟨w2.heap.size, 3, none⟩) HS2.out (.int .u16 0)), ((((gO.stay (rD0 rfl) (by decide) 0 (.int .i64 0)).stay (row_put (rD0 rfl) 0 (.int .i64 0)) (by decide) 1 (.int .i64 16)).stay (row_put (row_put (rD0 rfl) 0 (.int .i64 0)) 1 (.int .i64 16)) (by decide) 2 (.int .u16 (av2 : Nat))).stay (row_put (row_put (row_put (rD0 rfl) 0 (.int .i64 0)) 1 (.int .i64 16)) 2 (.int .u16 (av2 : Nat))) (by decide) 3 (.int .u16 0)), ((((gI.stay (rD0 rfl) (by decide) (by decide) 0 (.int .i64 0)).stay (row_put (rD0 rfl) 0 (.int .i64 0)) (by decide) (by decide) 1 (.int .i64 16)).stay (row_put (row_put (rD0 rfl) 0 (.int .i64 0)) 1 (.int .i64 16)) (by decide) (by decide) 2 (.int .u16 (av2 : Nat))).stay (row_put (row_put (row_put (rD0 rfl) 0 (.int .i64 0)) 1 (.int .i64 16)) 2 (.int .u16 (av2 : Nat))) (by decide) (by decide) 3 (.int .u16 0))⟩
   case hdone =>
    rintro ⟨b0, b1, b2, b3, b4, b5, s135, s136, s137⟩ W hI hall
    dsimp only at hI hall ⊢
    have HI := Lib.hid hI
    clear hI
    obtain rfl : b0 = true := hall 0 (by decide)
    obtain rfl : b1 = true := hall 1 (by decide)
    obtain rfl : b2 = true := hall 2 (by decide)
    obtain rfl : b3 = true := hall 3 (by decide)
    obtain rfl : b4 = true := hall 4 (by decide)
    obtain rfl : b5 = true := hall 5 (by decide)
    have rM1 := HI.out.2.2.2.2.2.2.2.2.2.1
    have rQ1 := HI.out.2.2.2.2.2.2.2.2.2.2.2.1
    have rD1 := HI.out.2.2.2.2.2.2.2.2.2.2.2.2.2.1
    have gB := HI.out.2.2.2.2.2.2.2.2.2.2.2.2.2.2.1
    have gO := HI.out.2.2.2.2.2.2.2.2.2.2.2.2.2.2.2.1
    have gI := HI.out.2.2.2.2.2.2.2.2.2.2.2.2.2.2.2.2
    clear HI hall
    have X1 := Lib.hid (rM1 rfl)
    have X2 := Lib.hid (rQ1 rfl)
    have X3 := Lib.hid (rD1 rfl)
    have X4 := Lib.hid gB
    have X5 := Lib.hid gO
    have X6 := Lib.hid gI
    clear rM1 rQ1 rD1 gB gO gI
    go_wp2
    go_roundw
    case rel => exact ⟨r + m, fn2, _, _, _, _, _, _, _, av2, q2, G2, rfl, by go_num, by have h1 := HFE.out; have h2 := HFR.out; omega, HFD.out.len, X1.out, X2.out, X3.out, X5.out, X6.out, X4.out⟩
    case measure => have := HM1.out; simp [intOf]; omega
set_option maxHeartbeats 1000000 in
set_option maxRecDepth 100000 in
theorem queueCarries_o1 (w : World) (v : Value) (l : List Int) (hv : IsInts w v l) (z : Int) (hc : 20 < l.length ∧ z = z) :
 Calls Tryz.prog 3 #[v, .int .i64 z] w fun e w' => e = .returned (.bool true) ∧ Below w.heap.size w w' := by
 obtain ⟨va, vn, vc, rfl, hvn⟩ : ∃ a n c, v = .slice a n c ∧ n = l.length := by obtain ⟨a, c, h, _⟩ := hv.1.shape; exact ⟨a, _, c, h, rfl⟩
 rw [← hvn] at hc
 clear hvn hv
 have d1 : decide ((20 : Int) < ((vn : Nat) : Int)) = true := decide_eq_true (by omega)
 go_enter Tryz.func3, Tryz.ntmps3
 go_wp2_with fail
 refine (heads_any _).mono ?_
 rintro e w1 ⟨rfl, hb⟩
 go_wp2
 go_ret
 exact ⟨rfl, hb⟩
set_option maxHeartbeats 1000000 in
set_option maxRecDepth 100000 in
theorem queueCarries_o2 (w : World) (v : Value) (l : List Int) (hv : IsInts w v l) (z : Int) (hc : l.length ≤ 20 ∧ z < 1) :
 Calls Tryz.prog 3 #[v, .int .i64 z] w fun e w' => e = .returned (.bool true) ∧ Below w.heap.size w w' := by
 obtain ⟨va, vn, vc, rfl, hvn⟩ : ∃ a n c, v = .slice a n c ∧ n = l.length := by obtain ⟨a, c, h, _⟩ := hv.1.shape; exact ⟨a, _, c, h, rfl⟩
 rw [← hvn] at hc
 clear hvn hv
 have d1 : decide ((20 : Int) < ((vn : Nat) : Int)) = false := decide_eq_false (by omega)
 have d2 : decide (z < 1) = true := decide_eq_true (by omega)
 go_enter Tryz.func3, Tryz.ntmps3
 go_wp2_with fail
 refine (heads_any _).mono ?_
 rintro e w1 ⟨rfl, hb⟩
 go_wp2
 go_ret
 exact ⟨rfl, hb⟩
set_option maxHeartbeats 1000000 in
set_option maxRecDepth 100000 in
theorem queueCarries_o3 (w : World) (v : Value) (l : List Int) (hv : IsInts w v l) (z : Int) (hc : l.length ≤ 20 ∧ 4 < z) :
 Calls Tryz.prog 3 #[v, .int .i64 z] w fun e w' => e = .returned (.bool true) ∧ Below w.heap.size w w' := by
 obtain ⟨va, vn, vc, rfl, hvn⟩ : ∃ a n c, v = .slice a n c ∧ n = l.length := by obtain ⟨a, c, h, _⟩ := hv.1.shape; exact ⟨a, _, c, h, rfl⟩
 rw [← hvn] at hc
 clear hvn hv
 have d1 : decide ((20 : Int) < ((vn : Nat) : Int)) = false := decide_eq_false (by omega)
 have d2 : decide (z < 1) = false := decide_eq_false (by omega)
 have d3 : decide (4 < z) = true := decide_eq_true (by omega)
 go_enter Tryz.func3, Tryz.ntmps3
 go_wp2_with fail
 refine (heads_any _).mono ?_
 rintro e w1 ⟨rfl, hb⟩
 go_wp2
 go_ret
 exact ⟨rfl, hb⟩
theorem queueCarries_law (w : World) (v : Value) (l : List Int) (hv : IsInts w v l) (z : Int) (_ : -9223372036854775808 ≤ z ∧ z ≤ 9223372036854775807) :
 Calls Tryz.prog 3 #[v, .int .i64 z] w fun e w' => e = .returned (.bool true) ∧ Below w.heap.size w w' := by
 by_cases h1 : 20 < l.length
 · exact queueCarries_o1 w v l hv z ⟨h1, rfl⟩
 by_cases h2 : z < 1
 · exact queueCarries_o2 w v l hv z ⟨by omega, h2⟩
 by_cases h3 : 4 < z
 · exact queueCarries_o3 w v l hv z ⟨by omega, h3⟩
 · obtain ⟨m, rfl⟩ := Int.eq_ofNat_of_zero_le (show 0 ≤ z by omega)
   exact queueCarries_main w v l hv m ⟨by omega, by omega, by omega⟩
end Go.Proofs.YtnmekbbnglkmcaaGreat
namespace Go.Proofs.YtnmekbbnglkmcaaGreat
open Go.RowKit Go.Lib Go.ChangeShapes Go.WideShapes
def intOfCell : Value → Int
 | .int _ z => z
 | _ => 0
def IsRows (w : World) (v : Value) (n : Nat) (V : Nat → Value) (Z : Nat → List UInt8) : Prop :=
 ∃ a c, v = .slice a n c ∧ n ≤ c ∧ c ≤ maxLen ∧ (0 < n → ∃ ad, a = some ad ∧ ∀ i, i < n → w.cell? (ad.add i) = some (V i)) ∧ ∀ i, i < n → IsArg w (V i) (Z i)
theorem IsRows.below {w w' : World} {v : Value} {n : Nat} {V : Nat → Value} {Z : Nat → List UInt8} (h : IsRows w v n V Z) (hb : Below w.heap.size w w') : IsRows w' v n V Z := by
 obtain ⟨a, c, h1, h2, h3, h4, h5⟩ := h
 refine ⟨a, c, h1, h2, h3, fun h0 => ?_, fun i hi => (h5 i hi).below hb⟩
 obtain ⟨ad, e1, e3⟩ := h4 h0
 exact ⟨ad, e1, fun i hi => (hb.cell (World.block_lt_of_cell? w _ (e3 i hi))).trans (e3 i hi)⟩
end Go.Proofs.YtnmekbbnglkmcaaGreat
namespace Go.Proofs.YtnmekbbnglkmcaaGreat
open Go.RowKit Go.Lib Go.ChangeShapes Go.WideShapes
section
variable {H : Type} {enc : TypeId × Value → H} {P : Program} {w : World} {base : Nat} {held : Bool}
end
theorem open_numbers {H : Type} {enc : TypeId × Value → H} {P : Program} {w : World} {base : Nat} {held : Bool} {r : Reach} {b0 : Nat} {t e : TypeId} {v : Value} {d : DataW H} {ps : List MemPlace}
 (ht : P.underlying t = some (.slice e)) (he : P.underlying e = some (.int .i64)) (hc : P.cellsOf e = 1) (hval : Value.okWide P w r b0 t v) (hd : DataW.Trod enc P w base (fun _ => true) held t v d ps) : ∃ l, IsInts w v l := by
 obtain ⟨a, n, c, rfl⟩ := okWide_slice ht hval
 obtain ⟨fuel, hf⟩ := hd
 rcases open_ints ht he hc hf with ⟨hcs, _⟩ | ⟨ad, len, cap, zs, hcs, _, hl, hm, hz, _, hcell, hwz⟩
 · have h : Value.slice a n c = .slice none 0 0 := by simpa [Value.cells] using hcs
   rw [h]
   exact ⟨[], .inl ⟨rfl, rfl, rfl⟩, fun z hz => by simp at hz⟩
 · have h : Value.slice a n c = .slice (some ad) len cap := by simpa [Value.cells] using hcs
   rw [h]
   have hz : zs.length = cap := by simpa using hz
   have hlt : (zs.take len).length = len := by simp; omega
   refine ⟨zs.take len, .inr ⟨ad, cap, by rw [hlt], by rw [hlt]; exact hl, hm, fun j u hu => ?_⟩, fun z hz' => ?_⟩
   · have hj : j < len := by
      have h9 := (List.getElem?_eq_some_iff.1 hu).1
      rw [List.length_map, hlt] at h9
      exact h9
     rw [hcell j (by omega), ← hu]
     simp [hj, show j < zs.length by omega]
   · exact bounds_i64 (hwz z (List.mem_of_mem_take hz'))
end Go.Proofs.YtnmekbbnglkmcaaGreat
