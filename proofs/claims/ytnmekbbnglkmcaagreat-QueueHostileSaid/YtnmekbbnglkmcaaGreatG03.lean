import Derived.Deep.CutRange
import Derived.Test.YtnmekbbnglkmcaaGreatG02
namespace Go.Proofs.YtnmekbbnglkmcaaGreat
open Go.RowKit Go.Lib
def flagOf (t more : Bool) : Nat := (if t then 2 else 0) + (if more then 1 else 0)
theorem flag_more (t : Bool) : flagOf t true = flagOf t false + 1 := by cases t <;> rfl
theorem flag_le (t : Bool) : flagOf t false ≤ 2 := by cases t <;> decide
def moreAt (bs : List QB) (k : Nat) : Bool := decide (k + 1 < bs.length)
def nextOf (ds : List Int) (bs : List QB) (k : Nat) : Nat := if k + 1 < bs.length then (ds.getD (k + 1) 0).toNat else 0
def layK (l : List UInt8) (B : Nat) (ds : List Int) (bs : List QB) : Nat → List UInt8
 | 0 => l
 | k + 1 => setD (layK l B ds bs k) (B + 16 * (ds.getD k 0).toNat) (bs.getD k (0, 0, false)).1.toNat (bs.getD k (0, 0, false)).2.1.toNat (flagOf (bs.getD k (0, 0, false)).2.2 (moreAt bs k)) (nextOf ds bs k)
theorem layK_length {l : List UInt8} {B N : Nat} {ds : List Int} {bs : List QB} (hok : RingOk l.length B N) (hd : ∀ d ∈ ds, 0 ≤ d ∧ d < (N : Int)) : ∀ k, k ≤ ds.length → (layK l B ds bs k).length = l.length
 | 0, _ => rfl
 | k + 1, hk => by
   have h1 := layK_length hok hd (bs := bs) k (by omega)
   have h2 := hd _ (List.getElem_mem (show k < ds.length by omega))
   have h3 : ds.getD k 0 = ds[k] := by simp [List.getD_eq_getElem?_getD, show k < ds.length by omega]
   have h4 := hok.lie
   rw [layK, setD_length _ _ _ _ (by rw [h1, h3]; omega), h1]
structure QueLay where
 (b0 b1 b2 b3 b4 b5 b6 b7 b8 b9 b10 b11 b12 b13 b14 b15 b16 b17 b18 b19 b20 b21 b22 b23 b24 b25 b26 b27 : Bool)
 (s47 s48 s49 s50 s51 s52 s53 s54 s55 s56 s57 s58 s59 s60 s61 s62 s63 s64 s65 s66 s67 s68 s46 s69 s70 s71 s72 : Value)
theorem Given.ownB {w W : World} {base : Nat} {v r : Value} {l G : List UInt8} (h : Given W base v l r G) (hv : OwnB 0 w v l) (hb : Below w.heap.size w W) : OwnB 0 W r G := by
 rcases h with ⟨rfl, rfl⟩ | h
 · exact hv.below hb
 · exact ownsRow_base (base' := 0) h (Nat.zero_le _)
set_option maxHeartbeats 8000000 in
set_option maxRecDepth 100000 in
theorem lay_any (B g bq N : Nat) (q : QQ) (F C M v Dv : Value) (D : List Value) (l : List UInt8) (hd0 rm : Int) (ds : List Int) (bs : List QB) (w : World) (hw : WorkB B w g q F C M D l) (hbf : OwnBf 0 w v bs) (hdv : OwnI 0 w Dv ds) (hok : RingOk l.length bq N) (hbq : q.base = (bq : Nat)) (hz0 : q.size = (N : Nat)) (hn : bs.length = ds.length) (h1 : 1 ≤ bs.length) (hn16 : bs.length ≤ 16)
 (h3 : ∀ x ∈ bs, InB l.length x) (hds : ∀ d ∈ ds, 0 ≤ d ∧ d < (N : Int)) (hB : B ≤ w.heap.size) :
 Calls Tryz.prog 27 #[.pointer (some ⟨g, 0, none⟩), .agg #[.int .i64 hd0, Dv, .int .i64 rm], v] w fun e w' => ∃ M2, e = .returned (.tuple #[]) ∧ WorkB B w' g q F C M2 D (layK l bq ds bs bs.length) ∧ Spare w w' B dirtyW := by
 obtain ⟨fa, fn, fc, ca, cn, cc, rfl, rfl, hfn, hcn, k1, k2, k3, k4⟩ := hw.isq.shape
 obtain ⟨b, z, fr, av, la, ch⟩ := q
 simp only at *
 subst hbq
 subst hz0
 obtain ⟨va, vc, rfl, hv1, hv2⟩ := hw.mem.shape
 obtain ⟨L, hL⟩ : ∃ L, L = l.length := ⟨_, rfl⟩
 obtain ⟨ba, bc, rfl, hb1, hb2⟩ := hbf.shape
 obtain ⟨da, dc, rfl, hd1, hd2⟩ := hdv.shape
 obtain ⟨n, hnn⟩ : ∃ n, n = bs.length := ⟨_, rfl⟩
 obtain ⟨dn, hdn⟩ : ∃ n, n = ds.length := ⟨_, rfl⟩
 have HLK := Lib.hid (show ∀ k, k ≤ n → (layK l bq ds bs k).length = L from fun k hk => by rw [layK_length hok hds k (by omega), hL])
 rw [← hnn] at hn h1 hn16 hbf hb1 ⊢
 rw [← hdn] at hn hdv hd1 ⊢
 rw [← hL] at hw hok h3
 obtain ⟨gb, rfl, hgb⟩ := hbf.lie (by omega)
 obtain ⟨gd, dcur, rfl, p1, p2, p3, p4, p5, p6⟩ := hdv.lie (by intro e; rw [e] at hdn; simp at hdn; omega)
 have HW := Lib.hid hw
 have HBF := Lib.hid hbf
 have HDV := Lib.hid hdv
 have HOK := Lib.hid hok
 have HIN := Lib.hid h3
 have HDS := Lib.hid hds
 have HN := Lib.hid hnn
 have HDN := Lib.hid hdn
 have HBB := Lib.hid hB
 have HDN2 := Lib.hid (show n = dn from hn)
 have hbx : Below w.heap.size w (w.alloc (.cells #[.int .i64 hd0, .slice (some ⟨gd, 0, none⟩) dn dc, .int .i64 rm] 76)) := (Below.refl _ _).alloc (Nat.le_refl _) _
 have HBX := Lib.hid hbx
 have HR4 := Lib.hid (heap_alloc_new w (.cells #[.int .i64 hd0, .slice (some ⟨gd, 0, none⟩) dn dc, .int .i64 rm] 76))
 clear hw hbf hdv hok h3 hds hfn hcn k1 k2 k3 k4 hv1 hv2 hb1 hb2 hd1 hd2 hnn hdn p1 p2 p3 p4 p5 p6 hB hbx hn hL
 go_enter Tryz.func27, Tryz.ntmps27
 go_wp2
 go_loopw [11] (fun i wr => ∃ (k : Nat) (ma : Option Addr) (mc : Nat), k ≤ n ∧ i = .int .i64 k ∧ WorkB B wr g ⟨(bq : Nat), (N : Nat), fr, av, la, ch⟩ (.slice fa fn fc) (.slice ca cn cc) (.slice ma L mc) D (layK l bq ds bs k) ∧ wr.heap[w.heap.size]? = some (.cells #[.int .i64 hd0, .slice (some ⟨gd, 0, none⟩) dn dc, .int .i64 rm] 76 (0, 0)) ∧ Spare w wr B dirtyW) (fun i _ => n - (intOf i).toNat)
 case atStart => exact ⟨0, va, vc, Nat.zero_le _, rfl, HW.out.below HBX.out, HR4.out, Spare.of_below HBX.out HBB.out _⟩
 case round =>
  obtain ⟨k, ma, mc, hk, rfl, hW, hR, hS⟩ := hrel
  have HWw := Lib.hid hW
  have HRw := Lib.hid hR
  have HSw := Lib.hid hS
  have HBFw := Lib.hid (show OwnBf 0 wr (.slice (some ⟨gb, 0, none⟩) n bc) bs from hS.owns HBF.out rfl)
  have HDVw := Lib.hid (show OwnI 0 wr (.slice (some ⟨gd, 0, none⟩) dn dc) ds from hS.owns HDV.out rfl)
  clear hW hR hS
  by_cases hlt : k < n
  · obtain ⟨px, py, pt, hx, g0, g1, g2⟩ := HBFw.out.at k (by rw [← HN.out]; exact hlt)
    obtain ⟨i1, i2, i3⟩ := HIN.out _ (List.mem_of_getElem? hx)
    simp only at i1 i2 i3
    have hL8 := HOK.out.few
    obtain ⟨px, rfl⟩ := Int.eq_ofNat_of_zero_le i1
    obtain ⟨py, rfl⟩ := Int.eq_ofNat_of_zero_le (show 0 ≤ py by omega)
    have hgd : bs.getD k (0, 0, false) = (((px : Nat) : Int), ((py : Nat) : Int), pt) := by rw [List.getD_eq_getElem?_getD, hx]; rfl
    have hkd : k < ds.length := by rw [← HDN.out, ← HDN2.out]; omega
    have hdk := HDS.out _ (List.getElem_mem hkd)
    obtain ⟨dk, hdk1⟩ := Int.eq_ofNat_of_zero_le hdk.1
    have hdk2 : ds.getD k 0 = (dk : Nat) := by simp [List.getD_eq_getElem?_getD, hkd, hdk1]
    have hdkN : dk < N := by omega
    have HKD := Lib.hid hkd
    have HDK := Lib.hid hdk2
    obtain ⟨l2, hl2⟩ : ∃ x, layK l bq ds bs (k + 1) = x := ⟨_, rfl⟩
    have hl3 : l2 = setD (layK l bq ds bs k) (bq + 16 * dk) px py (flagOf pt (moreAt bs k)) (nextOf ds bs k) := by
     rw [← hl2, layK, hgd, hdk2]
     simp
    have HL2 := Lib.hid hl2
    have hl4 : l2.length = L := by rw [← hl2]; exact HLK.out (k + 1) (by omega)
    have hmem := HWw.out.mem
    have hlk := HLK.out k hk
    have hlen : 0 ≤ (k : Int) ∧ (k : Int) < (n : Int) := by omega
    obtain ⟨hl0, hl1⟩ := hlen
    have hkdn : k < dn ∧ ((k : Nat) : Int) < (dn : Nat) := by have := HDN2.out; omega
    obtain ⟨hkd1, hkd3⟩ := hkdn
    have hw1 : IntKind.u64.wrap ((px : Nat) : Int) = (px : Nat) := IntWalk.u64_in _ (by omega)
    have hw2 : IntKind.u32.wrap ((py : Nat) : Int) = (py : Nat) := IntWalk.u32_in _ (by omega)
    have HSDA := Lib.hid (show ∀ (f nx : Nat), flagOf pt (moreAt bs k) = f → nextOf ds bs k = nx → nx < 65536 → ∀ (Y : World), OwnB 0 Y (.slice ma L mc) (layK l bq ds bs k) → ∀ W, Below Y.heap.size Y W → Calls Tryz.prog 58 #[.agg #[.slice ma L mc], .int .i64 (bq : Nat), .int .i64 (N : Nat), .int .i64 (dk : Nat), .agg #[.int .u64 (px : Nat), .int .u32 (py : Nat), .int .u16 (f : Nat), .int .u16 (nx : Nat)]] W fun e w' => ∃ ra rc, e = .returned (.tuple #[.agg #[.slice ra L rc], .int .i64 0]) ∧ OwnB 0 w' (.slice ra L rc) l2 ∧ Below W.heap.size W w' from fun f nx hf hnx hnx2 Y hY W hb => by
     have hok2 : RingOk (layK l bq ds bs k).length bq N := by rw [hlk]; exact HOK.out
     have hm := hY.below hb
     have hf4 : f < 65536 := by rw [← hf]; unfold flagOf; split <;> split <;> omega
     refine (setDesc_any _ (layK l bq ds bs k) (bq : Nat) (N : Nat) (dk : Nat) px py f nx (by omega) hf4 hnx2 0 l2 (descF_ok hok2 hdkN) ((setX_ok hok2 hdkN px py f nx).trans (by rw [hl3, hf, hnx])) (by omega) W hm.arg).mono ?_
     rintro e w' ⟨ra, rc, rfl, hgv, hbw⟩
     rw [hlk] at hgv ⊢
     exact ⟨ra, rc, rfl, hgv.ownB hm hbw, hbw⟩)
    clear hx i1 i2 i3 hgd hdk hdk1 hdk2 hl2 hl3 hl4 hmem hlk hkd
    go_upto_if 24 with fail
    go_cut [11] from 11 to 73 (fun x wx => x = .int .i64 (k : Nat) ∧ ∃ f0 : Nat, flagOf pt false = f0 ∧ wx = (wr.alloc (.cells #[.int .i64 (px : Nat), .int .i64 (py : Nat), .bool pt] 39)).alloc (.cells #[.int .u64 (px : Nat), .int .u32 (py : Nat), .int .u16 (f0 : Nat), .int .u16 0] 112))
    case first =>
     cases pt with
     | false =>
       go_wp2_with fail
       go_meet
       exact ⟨rfl, 0, rfl, rfl⟩
     | true =>
       go_wp2_with fail
       go_meet
       exact ⟨rfl, 2, rfl, rfl⟩
    obtain ⟨rfl, f0, hf0, rfl⟩ := hcut
    have hf2 : f0 ≤ 2 := by rw [← hf0]; exact flag_le pt
    have HF0 := Lib.hid hf0
    clear hf0
    go_upto_if 33 with fail
    go_cut [11] from 11 to 73 (fun x wx => x = .int .i64 (k : Nat) ∧ ∃ f nx : Nat, flagOf pt (moreAt bs k) = f ∧ nextOf ds bs k = nx ∧ nx < 65536 ∧ wx = (wr.alloc (.cells #[.int .i64 (px : Nat), .int .i64 (py : Nat), .bool pt] 39)).alloc (.cells #[.int .u64 (px : Nat), .int .u32 (py : Nat), .int .u16 (f : Nat), .int .u16 (nx : Nat)] 112))
    case first =>
     by_cases hm : k + 1 < n
     · have hmore : moreAt bs k = true := by unfold moreAt; rw [← HN.out]; exact decide_eq_true hm
       have hk1 : k + 1 < ds.length := by rw [← HDN.out, ← HDN2.out]; omega
       have hdx := HDS.out _ (List.getElem_mem hk1)
       obtain ⟨nx, hnx1⟩ := Int.eq_ofNat_of_zero_le hdx.1
       have hnxl : nx < 65536 := by have := HOK.out.lie; omega
       have hnx2 : ds.getD (k + 1) 0 = (nx : Nat) := by simp [List.getD_eq_getElem?_getD, hk1, hnx1]
       have hnx : nextOf ds bs k = nx := by unfold nextOf; rw [← HN.out, if_pos hm, hnx2]; rfl
       have hw3 : IntKind.u16.wrap ((nx : Nat) : Int) = (nx : Nat) := IntWalk.u16_in _ (by omega)
       have hb3 : decide (((k : Nat) : Int) + 1 < ((n : Nat) : Int)) = true := decide_eq_true (by omega)
       have hcn1 := HDVw.out.at (k + 1) hk1
       rw [hnx2] at hcn1
       have hm2 : k + 1 < dn ∧ ((k : Nat) : Int) + 1 < (dn : Nat) := by have := HDN2.out; omega
       obtain ⟨hm2, hm3⟩ := hm2
       have hlw := (Array.getElem?_eq_some_iff.1 HRw.out).1
       have hlgd := (HDVw.out.lt gd rfl).2
       obtain ⟨⟨q0, q1, q2⟩, _⟩ := cells_three HRw.out
       clear hdx hnx1 hnx2 hk1
       go_wp2_with fail
       go_meet
       exact ⟨rfl, f0 + 1, nx, by rw [hmore, flag_more, HF0.out], hnx, hnxl, rfl⟩
     · have hmore : moreAt bs k = false := by unfold moreAt; rw [← HN.out]; exact decide_eq_false hm
       have hnx0 : nextOf ds bs k = 0 := by unfold nextOf; rw [← HN.out, if_neg hm]
       have hb3 : decide (((k : Nat) : Int) + 1 < ((n : Nat) : Int)) = false := decide_eq_false (by omega)
       go_wp2_with fail
       go_meet
       exact ⟨rfl, f0, 0, by rw [hmore, HF0.out], hnx0, by decide, rfl⟩
    obtain ⟨rfl, f, nx, hf, hnx, hnl, rfl⟩ := hcut
    clear HF0 hf2
    obtain ⟨X, hX⟩ : ∃ X, X = (wr.alloc (.cells #[.int .i64 (px : Nat), .int .i64 (py : Nat), .bool pt] 39)).alloc (.cells #[.int .u64 (px : Nat), .int .u32 (py : Nat), .int .u16 (f : Nat), .int .u16 (nx : Nat)] 112) := ⟨_, rfl⟩
    have hbX : Below wr.heap.size wr X := by rw [hX]; exact ((Below.refl _ _).alloc (Nat.le_refl _) _).alloc (by simp) _
    have HX1 := Lib.hid (row_keep HWw.out.row hbX)
    have HX2 := Lib.hid (show X.heap[wr.heap.size + 1]? = some (.cells #[.int .u64 (px : Nat), .int .u32 (py : Nat), .int .u16 (f : Nat), .int .u16 (nx : Nat)] 112 (0, 0)) from by rw [hX]; simpa using heap_alloc_new (wr.alloc (.cells #[.int .i64 (px : Nat), .int .i64 (py : Nat), .bool pt] 39)) (.cells #[.int .u64 (px : Nat), .int .u32 (py : Nat), .int .u16 (f : Nat), .int .u16 (nx : Nat)] 112))
    have HX3 := Lib.hid (row_keep HRw.out hbX)
    have HX4 := Lib.hid (HDVw.out.below hbX)
    have HBXw := Lib.hid hbX
    have HSD := Lib.hid (HSDA.out f nx hf hnx hnl X (HWw.out.mem.below hbX))
    have HXE := Lib.hid hX
    clear hbX hX hf hnx hnl
    go_wp2_with fail
    rw [← HXE.out]
    refine wp_region_rec (X := QueLay) (by kernel_rfl) (by kernel_rfl) (fun x => #[x.b0, x.b1, x.b2, x.b3, x.b4, x.b5, x.b6, x.b7, x.b8, x.b9, x.b10, x.b11, x.b12, x.b13, x.b14, x.b15, x.b16, x.b17, x.b18, x.b19, x.b20, x.b21, x.b22, x.b23, x.b24, x.b25, x.b26, x.b27]) (fun x => { tmps := List.toArray ((.pointer (some ⟨g, 0, none⟩)) :: (.agg #[.int .i64 hd0, .slice (some ⟨gd, 0, none⟩) dn dc, .int .i64 rm]) :: (.slice (some ⟨gb, 0, none⟩) n bc) :: undef :: (.pointer (some ⟨w.heap.size, 0, none⟩)) :: undef :: (.int .i64 (k : Nat)) :: (.pointer (some ⟨wr.heap.size, 0, none⟩)) :: (.pointer (some ⟨wr.heap.size + 1, 0, none⟩)) :: (.slice (some ⟨gb, 0, none⟩) n bc) :: (.int .i64 (n : Nat)) :: (.int .i64 (k : Nat)) :: u12 :: u13 :: u14 :: u15 :: u16 :: u17 :: u18 :: u19 :: u20 :: u21 :: u22 :: u23 :: u24 :: u25 :: u26 :: u27 :: u28 :: u29 :: u30 :: u31 :: u32 :: u33 :: u34 :: u35 :: u36 :: u37 :: u38 :: u39 :: u40 :: u41 :: u42 :: u43 :: u44 :: u45 :: x.s46 :: x.s47 :: x.s48 :: x.s49 :: x.s50 :: x.s51 :: x.s52 :: x.s53 :: x.s54 :: x.s55 :: x.s56 :: x.s57 :: x.s58 :: x.s59 :: x.s60 :: x.s61 :: x.s62 :: x.s63 :: x.s64 :: x.s65 :: x.s66 :: x.s67 :: x.s68 :: x.s69 :: x.s70 :: x.s71 :: x.s72 :: u73 :: []), defers := [] }) (fun x W => (x.b0 = true → x.s47 = .pointer (some ⟨g, 0, none⟩)) ∧ (x.b1 = true → x.s48 = .pointer (some ⟨g, 0, none⟩)) ∧ (x.b2 = true → x.s49 = .pointer (some ⟨g, 0, none⟩)) ∧ (x.b3 = true → x.s50 = .pointer (some ⟨g, 6, none⟩)) ∧ (x.b4 = true → x.s51 = .agg #[.slice ma L mc]) ∧ (x.b5 = true → x.s52 = .pointer (some ⟨g, 0, none⟩)) ∧ (x.b6 = true → x.s53 = .pointer (some ⟨g, 0, none⟩)) ∧ (x.b7 = true → x.s54 = .pointer (some ⟨g, 0, none⟩)) ∧ (x.b8 = true → x.s55 = .pointer (some ⟨g, 0, none⟩)) ∧ (x.b9 = true → x.s56 = .int .i64 (bq : Nat)) ∧ (x.b10 = true → x.s57 = .pointer (some ⟨g, 0, none⟩)) ∧ (x.b11 = true → x.s58 = .pointer (some ⟨g, 0, none⟩)) ∧ (x.b12 = true → x.s59 = .pointer (some ⟨g, 0, none⟩)) ∧ (x.b13 = true → x.s60 = .pointer (some ⟨g, 1, none⟩)) ∧ (x.b14 = true → x.s61 = .int .i64 (N : Nat)) ∧ (x.b15 = true → x.s62 = .pointer (some ⟨w.heap.size, 1, none⟩)) ∧ (x.b16 = true → x.s63 = .slice (some ⟨gd, 0, none⟩) dn dc) ∧ (x.b17 = true → x.s64 = .int .i64 (k : Nat)) ∧ (x.b18 = true → x.s65 = .pointer (some ⟨gd, k, none⟩)) ∧ (x.b19 = true → x.s66 = .int .i64 (dk : Nat)) ∧ (x.b20 = true → x.s67 = .agg #[.int .u64 (px : Nat), .int .u32 (py : Nat), .int .u16 (f : Nat), .int .u16 (nx : Nat)]) ∧ (x.b22 = true → x.s46 = x.s68) ∧ (x.b24 = true → x.s70 = .int .i64 0) ∧ (x.b25 = true → x.s71 = .pointer (some ⟨g, 0, none⟩)) ∧ (x.b26 = true → x.s72 = .pointer (some ⟨g, 6, none⟩)) ∧ (x.b22 = true → x.b21 = true) ∧ (x.b27 = true → x.b4 = true ∧ x.b9 = true ∧ x.b14 = true ∧ x.b16 = true ∧ x.b19 = true ∧ x.b20 = true ∧ x.b21 = true) ∧ (x.b23 = true → x.b21 = true) ∧ (x.b27 = false → W.heap[g]? = some (.cells #[.int .i64 (bq : Nat), .int .i64 (N : Nat), .slice fa fn fc, .int .u16 (av : Nat), .int .u16 (la : Nat), .slice ca cn cc, .slice ma L mc] 74 (0, 0))) ∧ (x.b27 = false → W.heap[wr.heap.size + 1]? = some (.cells #[.int .u64 (px : Nat), .int .u32 (py : Nat), .int .u16 (f : Nat), .int .u16 (nx : Nat)] 112 (0, 0))) ∧ (x.b27 = false → W.heap[w.heap.size]? = some (.cells #[.int .i64 hd0, .slice (some ⟨gd, 0, none⟩) dn dc, .int .i64 rm] 76 (0, 0))) ∧ (x.b27 = false → Below X.heap.size X W) ∧ (x.b21 = true → ∃ ra rc, x.s68 = .tuple #[.agg #[.slice ra L rc], .int .i64 0] ∧ OwnB 0 W (.slice ra L rc) l2) ∧ (x.b23 = true → ∃ ra rc, x.s69 = .agg #[.slice ra L rc] ∧ OwnB 0 W (.slice ra L rc) l2) ∧ (x.b27 = true → ∃ ra rc w6, W = w6.setCell ⟨g, 6, none⟩ (.slice ra L rc) ∧ Below X.heap.size X w6 ∧ OwnB 0 w6 (.slice ra L rc) l2)) ⟨false, false, false, false, false, false, false, false, false, false, false, false, false, false, false, false, false, false, false, false, false, false, false, false, false, false, false, false, u47, u48, u49, u50, u51, u52, u53, u54, u55, u56, u57, u58, u59, u60, u61, u62, u63, u64, u65, u66, u67, u68, u46, u69, u70, u71, u72⟩ rfl rfl ⟨(fun h => by cases h), (fun h => by cases h), (fun h => by cases h), (fun h => by cases h), (fun h => by cases h), (fun h => by cases h), (fun h => by cases h), (fun h => by cases h), (fun h => by cases h), (fun h => by cases h), (fun h => by cases h), (fun h => by cases h), (fun h => by cases h), (fun h => by cases h), (fun h => by cases h), (fun h => by cases h), (fun h => by cases h), (fun h => by cases h), (fun h => by cases h), (fun h => by cases h), (fun h => by cases h), (fun h => by cases h), (fun h => by cases h), (fun h => by cases h), (fun h => by cases h), (fun h => by cases h), (fun h => by cases h), (fun h => by cases h), (fun _ => HX1.out), (fun _ => HX2.out), (fun _ => HX3.out), (fun _ => (Below.refl _ _).drew), (fun h => by cases h), (fun h => by cases h), (fun h => by cases h)⟩ (fun _ => rfl) ?hstep ?hdone
    case hstep =>
     rintro ⟨b0, b1, b2, b3, b4, b5, b6, b7, b8, b9, b10, b11, b12, b13, b14, b15, b16, b17, b18, b19, b20, b21, b22, b23, b24, b25, b26, b27, s47, s48, s49, s50, s51, s52, s53, s54, s55, s56, s57, s58, s59, s60, s61, s62, s63, s64, s65, s66, s67, s68, s46, s69, s70, s71, s72⟩ W hI i hi
     dsimp only at hI hi ⊢
     have HI := Lib.hid hI
     clear hI
     rw [Region.ready, List.mem_filter, List.mem_range] at hi
     obtain ⟨hlt, hp⟩ := hi
     have hi7 : i = 0 ∨ i = 1 ∨ i = 2 ∨ i = 3 ∨ i = 4 ∨ i = 5 ∨ i = 6 ∨ i = 7 ∨ i = 8 ∨ i = 9 ∨ i = 10 ∨ i = 11 ∨ i = 12 ∨ i = 13 ∨ i = 14 ∨ i = 15 ∨ i = 16 ∨ i = 17 ∨ i = 18 ∨ i = 19 ∨ i = 20 ∨ i = 21 ∨ i = 22 ∨ i = 23 ∨ i = 24 ∨ i = 25 ∨ i = 26 ∨ i = 27 := by simp at hlt; omega
     clear hlt
     rcases hi7 with rfl | rfl | rfl | rfl | rfl | rfl | rfl | rfl | rfl | rfl | rfl | rfl | rfl | rfl | rfl | rfl | rfl | rfl | rfl | rfl | rfl | rfl | rfl | rfl | rfl | rfl | rfl | rfl
     all_goals simp [Region.binds] at hp
     · obtain rfl : b0 = false := by revert hp; cases b0 <;> simp
       clear hp
       refine inv_op (o := ⟨some 47, _, _, _, _, _⟩) rfl (fun K' hK' => ?_)
       go_simp
       exact hK'.out _ _ ⟨.mk .., rfl, rfl, (Upd (fun _ => rfl)) HI.out⟩
     · obtain rfl : b1 = false := by revert hp; cases b1 <;> simp
       clear hp
       refine inv_op (o := ⟨some 48, _, _, _, _, _⟩) rfl (fun K' hK' => ?_)
       go_simp
       exact hK'.out _ _ ⟨.mk .., rfl, rfl, Nxt (Upd (fun _ => rfl)) HI.out⟩
     · obtain ⟨rfl, e1⟩ : b2 = false ∧ b1 = true := by revert hp; cases b2 <;> cases b1 <;> simp
       clear hp
       obtain rfl := (HI.out.2.1) e1
       refine inv_op (o := ⟨some 49, _, _, _, _, _⟩) rfl (fun K' hK' => ?_)
       go_simp
       exact hK'.out _ _ ⟨.mk .., rfl, rfl, Nxt (Nxt (Upd (fun _ => rfl))) HI.out⟩
     · obtain ⟨rfl, e2⟩ : b3 = false ∧ b2 = true := by revert hp; cases b3 <;> cases b2 <;> simp
       clear hp
       obtain rfl := (HI.out.2.2.1) e2
       refine inv_op (o := ⟨some 50, _, _, _, _, _⟩) rfl (fun K' hK' => ?_)
       go_simp
       exact hK'.out _ _ ⟨.mk .., rfl, rfl, Nxt (Nxt (Nxt (Upd (fun _ => rfl)))) HI.out⟩
     · obtain ⟨rfl, e3⟩ : b4 = false ∧ b3 = true := by revert hp; cases b4 <;> cases b3 <;> simp
       clear hp
       obtain rfl := (HI.out.2.2.2.1) e3
       refine inv_op (o := ⟨some 51, _, _, _, _, _⟩) rfl (fun K' hK' => ?_)
       have gi27 := HI.out.2.2.2.2.2.2.2.2.2.2.2.2.2.2.2.2.2.2.2.2.2.2.2.2.2.2.1
       have rW0 := HI.out.2.2.2.2.2.2.2.2.2.2.2.2.2.2.2.2.2.2.2.2.2.2.2.2.2.2.2.2.1
       have hbf27 : b27 = false := by cases b27 with | false => rfl | true => exact absurd ((gi27 rfl).1) (by decide)
       subst hbf27
       obtain ⟨hc6, _⟩ := at_cell (rW0 rfl) 6 _ rfl
       go_simp
       obtain ⟨h0, h1, h2, h3, h4, h5, h6, h7, h8, h9, h10, h11, h12, h13, h14, h15, h16, h17, h18, h19, h20, h22, h24, h25, h26, gi22, gi27, gi23, rW0, rD0, rC0, gB, gP, gX, gF⟩ := HI.out
       exact hK'.out _ _ ⟨.mk .., rfl, rfl, h0, h1, h2, h3, (fun _ => rfl), h5, h6, h7, h8, h9, h10, h11, h12, h13, h14, h15, h16, h17, h18, h19, h20, h22, h24, h25, h26, gi22, (fun e => by cases e), gi23, rW0, rD0, rC0, gB, gP, gX, (fun e => by cases e)⟩
     · obtain rfl : b5 = false := by revert hp; cases b5 <;> simp
       clear hp
       refine inv_op (o := ⟨some 52, _, _, _, _, _⟩) rfl (fun K' hK' => ?_)
       go_simp
       exact hK'.out _ _ ⟨.mk .., rfl, rfl, Nxt (Nx4 (Upd (fun _ => rfl))) HI.out⟩
     · obtain ⟨rfl, e5⟩ : b6 = false ∧ b5 = true := by revert hp; cases b6 <;> cases b5 <;> simp
       clear hp
       obtain rfl := (HI.out.2.2.2.2.2.1) e5
       refine inv_op (o := ⟨some 53, _, _, _, _, _⟩) rfl (fun K' hK' => ?_)
       go_simp
       exact hK'.out _ _ ⟨.mk .., rfl, rfl, Nxt (Nxt (Nx4 (Upd (fun _ => rfl)))) HI.out⟩
     · obtain ⟨rfl, e6⟩ : b7 = false ∧ b6 = true := by revert hp; cases b7 <;> cases b6 <;> simp
       clear hp
       obtain rfl := (HI.out.2.2.2.2.2.2.1) e6
       refine inv_op (o := ⟨some 54, _, _, _, _, _⟩) rfl (fun K' hK' => ?_)
       go_simp
       exact hK'.out _ _ ⟨.mk .., rfl, rfl, Nxt (Nxt (Nxt (Nx4 (Upd (fun _ => rfl))))) HI.out⟩
     · obtain ⟨rfl, e7⟩ : b8 = false ∧ b7 = true := by revert hp; cases b8 <;> cases b7 <;> simp
       clear hp
       obtain rfl := (HI.out.2.2.2.2.2.2.2.1) e7
       refine inv_op (o := ⟨some 55, _, _, _, _, _⟩) rfl (fun K' hK' => ?_)
       go_simp
       exact hK'.out _ _ ⟨.mk .., rfl, rfl, Nx4 (Nx4 (Upd (fun _ => rfl))) HI.out⟩
     · obtain ⟨rfl, e8⟩ : b9 = false ∧ b8 = true := by revert hp; cases b9 <;> cases b8 <;> simp
       clear hp
       obtain rfl := (HI.out.2.2.2.2.2.2.2.2.1) e8
       refine inv_op (o := ⟨some 56, _, _, _, _, _⟩) rfl (fun K' hK' => ?_)
       have gi27 := HI.out.2.2.2.2.2.2.2.2.2.2.2.2.2.2.2.2.2.2.2.2.2.2.2.2.2.2.1
       have rW0 := HI.out.2.2.2.2.2.2.2.2.2.2.2.2.2.2.2.2.2.2.2.2.2.2.2.2.2.2.2.2.1
       have hbf27 : b27 = false := by cases b27 with | false => rfl | true => exact absurd ((gi27 rfl).2.1) (by decide)
       subst hbf27
       obtain ⟨hc0, _⟩ := at_cell (rW0 rfl) 0 _ rfl
       go_simp
       obtain ⟨h0, h1, h2, h3, h4, h5, h6, h7, h8, h9, h10, h11, h12, h13, h14, h15, h16, h17, h18, h19, h20, h22, h24, h25, h26, gi22, gi27, gi23, rW0, rD0, rC0, gB, gP, gX, gF⟩ := HI.out
       exact hK'.out _ _ ⟨.mk .., rfl, rfl, h0, h1, h2, h3, h4, h5, h6, h7, h8, (fun _ => rfl), h10, h11, h12, h13, h14, h15, h16, h17, h18, h19, h20, h22, h24, h25, h26, gi22, (fun e => by cases e), gi23, rW0, rD0, rC0, gB, gP, gX, (fun e => by cases e)⟩
     · obtain rfl : b10 = false := by revert hp; cases b10 <;> simp
       clear hp
       refine inv_op (o := ⟨some 57, _, _, _, _, _⟩) rfl (fun K' hK' => ?_)
       go_simp
       exact hK'.out _ _ ⟨.mk .., rfl, rfl, Nxt (Nxt (Nx4 (Nx4 (Upd (fun _ => rfl))))) HI.out⟩
     · obtain ⟨rfl, e10⟩ : b11 = false ∧ b10 = true := by revert hp; cases b11 <;> cases b10 <;> simp
       clear hp
       obtain rfl := (HI.out.2.2.2.2.2.2.2.2.2.2.1) e10
       refine inv_op (o := ⟨some 58, _, _, _, _, _⟩) rfl (fun K' hK' => ?_)
       go_simp
       exact hK'.out _ _ ⟨.mk .., rfl, rfl, Nxt (Nxt (Nxt (Nx4 (Nx4 (Upd (fun _ => rfl)))))) HI.out⟩
     · obtain ⟨rfl, e11⟩ : b12 = false ∧ b11 = true := by revert hp; cases b12 <;> cases b11 <;> simp
       clear hp
       obtain rfl := (HI.out.2.2.2.2.2.2.2.2.2.2.2.1) e11
       refine inv_op (o := ⟨some 59, _, _, _, _, _⟩) rfl (fun K' hK' => ?_)
       go_simp
       exact hK'.out _ _ ⟨.mk .., rfl, rfl, Nx4 (Nx4 (Nx4 (Upd (fun _ => rfl)))) HI.out⟩
     · obtain ⟨rfl, e12⟩ : b13 = false ∧ b12 = true := by revert hp; cases b13 <;> cases b12 <;> simp
       clear hp
       obtain rfl := (HI.out.2.2.2.2.2.2.2.2.2.2.2.2.1) e12
       refine inv_op (o := ⟨some 60, _, _, _, _, _⟩) rfl (fun K' hK' => ?_)
       go_simp
       exact hK'.out _ _ ⟨.mk .., rfl, rfl, Nxt (Nx4 (Nx4 (Nx4 (Upd (fun _ => rfl))))) HI.out⟩
     · obtain ⟨rfl, e13⟩ : b14 = false ∧ b13 = true := by revert hp; cases b14 <;> cases b13 <;> simp
       clear hp
       obtain rfl := (HI.out.2.2.2.2.2.2.2.2.2.2.2.2.2.1) e13
       refine inv_op (o := ⟨some 61, _, _, _, _, _⟩) rfl (fun K' hK' => ?_)
       have gi27 := HI.out.2.2.2.2.2.2.2.2.2.2.2.2.2.2.2.2.2.2.2.2.2.2.2.2.2.2.1
       have rW0 := HI.out.2.2.2.2.2.2.2.2.2.2.2.2.2.2.2.2.2.2.2.2.2.2.2.2.2.2.2.2.1
       have hbf27 : b27 = false := by cases b27 with | false => rfl | true => exact absurd ((gi27 rfl).2.2.1) (by decide)
       subst hbf27
       obtain ⟨hc1, _⟩ := at_cell (rW0 rfl) 1 _ rfl
       go_simp
       obtain ⟨h0, h1, h2, h3, h4, h5, h6, h7, h8, h9, h10, h11, h12, h13, h14, h15, h16, h17, h18, h19, h20, h22, h24, h25, h26, gi22, gi27, gi23, rW0, rD0, rC0, gB, gP, gX, gF⟩ := HI.out
       exact hK'.out _ _ ⟨.mk .., rfl, rfl, h0, h1, h2, h3, h4, h5, h6, h7, h8, h9, h10, h11, h12, h13, (fun _ => rfl), h15, h16, h17, h18, h19, h20, h22, h24, h25, h26, gi22, (fun e => by cases e), gi23, rW0, rD0, rC0, gB, gP, gX, (fun e => by cases e)⟩
     · obtain rfl : b15 = false := by revert hp; cases b15 <;> simp
       clear hp
       refine inv_op (o := ⟨some 62, _, _, _, _, _⟩) rfl (fun K' hK' => ?_)
       go_simp
       exact hK'.out _ _ ⟨.mk .., rfl, rfl, Nxt (Nxt (Nxt (Nx4 (Nx4 (Nx4 (Upd (fun _ => rfl))))))) HI.out⟩
     · obtain ⟨rfl, e15⟩ : b16 = false ∧ b15 = true := by revert hp; cases b16 <;> cases b15 <;> simp
       clear hp
       obtain rfl := (HI.out.2.2.2.2.2.2.2.2.2.2.2.2.2.2.2.1) e15
       refine inv_op (o := ⟨some 63, _, _, _, _, _⟩) rfl (fun K' hK' => ?_)
       have gi27 := HI.out.2.2.2.2.2.2.2.2.2.2.2.2.2.2.2.2.2.2.2.2.2.2.2.2.2.2.1
       have rC0 := HI.out.2.2.2.2.2.2.2.2.2.2.2.2.2.2.2.2.2.2.2.2.2.2.2.2.2.2.2.2.2.2.1
       have hbf27 : b27 = false := by cases b27 with | false => rfl | true => exact absurd ((gi27 rfl).2.2.2.1) (by decide)
       subst hbf27
       obtain ⟨hc1, _⟩ := at_cell (rC0 rfl) 1 _ rfl
       go_simp
       obtain ⟨h0, h1, h2, h3, h4, h5, h6, h7, h8, h9, h10, h11, h12, h13, h14, h15, h16, h17, h18, h19, h20, h22, h24, h25, h26, gi22, gi27, gi23, rW0, rD0, rC0, gB, gP, gX, gF⟩ := HI.out
       exact hK'.out _ _ ⟨.mk .., rfl, rfl, h0, h1, h2, h3, h4, h5, h6, h7, h8, h9, h10, h11, h12, h13, h14, h15, (fun _ => rfl), h17, h18, h19, h20, h22, h24, h25, h26, gi22, (fun e => by cases e), gi23, rW0, rD0, rC0, gB, gP, gX, (fun e => by cases e)⟩
     · obtain rfl : b17 = false := by revert hp; cases b17 <;> simp
       clear hp
       refine inv_op (o := ⟨some 64, _, _, _, _, _⟩) rfl (fun K' hK' => ?_)
       go_simp
       exact hK'.out _ _ ⟨.mk .., rfl, rfl, Nxt (Nx16 (Upd (fun _ => rfl))) HI.out⟩
     · obtain ⟨rfl, e16, e17⟩ : b18 = false ∧ b16 = true ∧ b17 = true := by revert hp; cases b18 <;> cases b16 <;> cases b17 <;> simp
       clear hp
       obtain rfl := (HI.out.2.2.2.2.2.2.2.2.2.2.2.2.2.2.2.2.1) e16
       obtain rfl := (HI.out.2.2.2.2.2.2.2.2.2.2.2.2.2.2.2.2.2.1) e17
       refine inv_op (o := ⟨some 65, _, _, _, _, _⟩) rfl (fun K' hK' => ?_)
       go_simp
       exact hK'.out _ _ ⟨.mk .., rfl, rfl, Nxt (Nxt (Nx16 (Upd (fun _ => rfl)))) HI.out⟩
     · obtain ⟨rfl, e18⟩ : b19 = false ∧ b18 = true := by revert hp; cases b19 <;> cases b18 <;> simp
       clear hp
       obtain rfl := (HI.out.2.2.2.2.2.2.2.2.2.2.2.2.2.2.2.2.2.2.1) e18
       refine inv_op (o := ⟨some 66, _, _, _, _, _⟩) rfl (fun K' hK' => ?_)
       have gi27 := HI.out.2.2.2.2.2.2.2.2.2.2.2.2.2.2.2.2.2.2.2.2.2.2.2.2.2.2.1
       have gB := HI.out.2.2.2.2.2.2.2.2.2.2.2.2.2.2.2.2.2.2.2.2.2.2.2.2.2.2.2.2.2.2.2.1
       have hbf27 : b27 = false := by cases b27 with | false => rfl | true => exact absurd ((gi27 rfl).2.2.2.2.1) (by decide)
       subst hbf27
       have hc7 := (HX4.out.below (gB rfl)).at k HKD.out
       rw [HDK.out] at hc7
       go_simp
       obtain ⟨h0, h1, h2, h3, h4, h5, h6, h7, h8, h9, h10, h11, h12, h13, h14, h15, h16, h17, h18, h19, h20, h22, h24, h25, h26, gi22, gi27, gi23, rW0, rD0, rC0, gB, gP, gX, gF⟩ := HI.out
       exact hK'.out _ _ ⟨.mk .., rfl, rfl, h0, h1, h2, h3, h4, h5, h6, h7, h8, h9, h10, h11, h12, h13, h14, h15, h16, h17, h18, (fun _ => rfl), h20, h22, h24, h25, h26, gi22, (fun e => by cases e), gi23, rW0, rD0, rC0, gB, gP, gX, (fun e => by cases e)⟩
     · obtain rfl : b20 = false := by revert hp; cases b20 <;> simp
       clear hp
       refine inv_op (o := ⟨some 67, _, _, _, _, _⟩) rfl (fun K' hK' => ?_)
       have gi27 := HI.out.2.2.2.2.2.2.2.2.2.2.2.2.2.2.2.2.2.2.2.2.2.2.2.2.2.2.1
       have rD0 := HI.out.2.2.2.2.2.2.2.2.2.2.2.2.2.2.2.2.2.2.2.2.2.2.2.2.2.2.2.2.2.1
       have hbf27 : b27 = false := by cases b27 with | false => rfl | true => exact absurd ((gi27 rfl).2.2.2.2.2.1) (by decide)
       subst hbf27
       obtain ⟨hc0, _⟩ := at_cell (rD0 rfl) 0 _ rfl
       obtain ⟨hc1, _⟩ := at_cell (rD0 rfl) 1 _ rfl
       obtain ⟨hc2, _⟩ := at_cell (rD0 rfl) 2 _ rfl
       obtain ⟨hc3, _⟩ := at_cell (rD0 rfl) 3 _ rfl
       go_simp
       obtain ⟨h0, h1, h2, h3, h4, h5, h6, h7, h8, h9, h10, h11, h12, h13, h14, h15, h16, h17, h18, h19, h20, h22, h24, h25, h26, gi22, gi27, gi23, rW0, rD0, rC0, gB, gP, gX, gF⟩ := HI.out
       exact hK'.out _ _ ⟨.mk .., rfl, rfl, h0, h1, h2, h3, h4, h5, h6, h7, h8, h9, h10, h11, h12, h13, h14, h15, h16, h17, h18, h19, (fun _ => rfl), h22, h24, h25, h26, gi22, (fun e => by cases e), gi23, rW0, rD0, rC0, gB, gP, gX, (fun e => by cases e)⟩
     · have hn21 : b21 = false := by revert hp; cases b21 <;> simp
       have e4 : b4 = true := by revert hp; cases b4 <;> simp
       have e9 : b9 = true := by revert hp; cases b9 <;> simp
       have e14 : b14 = true := by revert hp; cases b14 <;> simp
       have e19 : b19 = true := by revert hp; cases b19 <;> simp
       have e20 : b20 = true := by revert hp; cases b20 <;> simp
       clear hp
       obtain rfl := (HI.out.2.2.2.2.1) e4
       obtain rfl := (HI.out.2.2.2.2.2.2.2.2.2.1) e9
       obtain rfl := (HI.out.2.2.2.2.2.2.2.2.2.2.2.2.2.2.1) e14
       obtain rfl := (HI.out.2.2.2.2.2.2.2.2.2.2.2.2.2.2.2.2.2.2.2.1) e19
       obtain rfl := (HI.out.2.2.2.2.2.2.2.2.2.2.2.2.2.2.2.2.2.2.2.2.1) e20
       subst hn21
       refine inv_op (o := ⟨some 68, _, _, _, _, _⟩) rfl (fun K' hK' => ?_)
       have gi22 := HI.out.2.2.2.2.2.2.2.2.2.2.2.2.2.2.2.2.2.2.2.2.2.2.2.2.2.1
       have gi27 := HI.out.2.2.2.2.2.2.2.2.2.2.2.2.2.2.2.2.2.2.2.2.2.2.2.2.2.2.1
       have gi23 := HI.out.2.2.2.2.2.2.2.2.2.2.2.2.2.2.2.2.2.2.2.2.2.2.2.2.2.2.2.1
       have gB := HI.out.2.2.2.2.2.2.2.2.2.2.2.2.2.2.2.2.2.2.2.2.2.2.2.2.2.2.2.2.2.2.2.1
       have hbf22 : b22 = false := by cases b22 with | false => rfl | true => exact absurd ((gi22 rfl)) (by decide)
       subst hbf22
       have hbf27 : b27 = false := by cases b27 with | false => rfl | true => exact absurd ((gi27 rfl).2.2.2.2.2.2) (by decide)
       subst hbf27
       have hbf23 : b23 = false := by cases b23 with | false => rfl | true => exact absurd ((gi23 rfl)) (by decide)
       subst hbf23
       go_simp
       refine (HSD.out W (gB rfl)).mono ?_
       rintro e w2 ⟨ra, rc, rfl, hr, bn⟩
       obtain ⟨h0, h1, h2, h3, h4, h5, h6, h7, h8, h9, h10, h11, h12, h13, h14, h15, h16, h17, h18, h19, h20, h22, h24, h25, h26, gi22, gi27, gi23, rW0, rD0, rC0, gB, gP, gX, gF⟩ := HI.out
       exact hK'.out _ _ ⟨.mk .., rfl, rfl, h0, h1, h2, h3, h4, h5, h6, h7, h8, h9, h10, h11, h12, h13, h14, h15, h16, h17, h18, h19, h20, (fun e => by cases ((gi22 e))), h24, h25, h26, (fun e => by cases e), (fun e => by cases e), (fun e => by cases e), (fun e => row_keep (rW0 e) bn), (fun e => row_keep (rD0 e) bn), (fun e => row_keep (rC0 e) bn), (fun e => (gB e).trans (bn.mono (gB e).size)), (fun _ => ⟨ra, rc, rfl, hr⟩), (fun e => by cases e), (fun e => by cases e)⟩
     · obtain ⟨rfl, e21⟩ : b22 = false ∧ b21 = true := by revert hp; cases b22 <;> cases b21 <;> simp
       clear hp
       refine inv_op (o := ⟨some 46, _, _, _, _, _⟩) rfl (fun K' hK' => ?_)
       go_simp
       exact hK'.out _ _ ⟨.mk .., rfl, rfl, Nxt (Nx4 (Nx4 (Nx16 (Upd (fun _ => e21))))) (Nxt (Nx4 (Nx16 (Upd (fun _ => rfl)))) HI.out)⟩
     · obtain ⟨rfl, e22⟩ : b23 = false ∧ b22 = true := by revert hp; cases b23 <;> cases b22 <;> simp
       clear hp
       obtain rfl := (HI.out.2.2.2.2.2.2.2.2.2.2.2.2.2.2.2.2.2.2.2.2.2.1) e22
       refine inv_op (o := ⟨some 69, _, _, _, _, _⟩) rfl (fun K' hK' => ?_)
       have gi22 := HI.out.2.2.2.2.2.2.2.2.2.2.2.2.2.2.2.2.2.2.2.2.2.2.2.2.2.1
       have gP := HI.out.2.2.2.2.2.2.2.2.2.2.2.2.2.2.2.2.2.2.2.2.2.2.2.2.2.2.2.2.2.2.2.2.1
       obtain ⟨ra, rc, rfl, hp⟩ := gP ((gi22 e22))
       go_simp
       obtain ⟨h0, h1, h2, h3, h4, h5, h6, h7, h8, h9, h10, h11, h12, h13, h14, h15, h16, h17, h18, h19, h20, h22, h24, h25, h26, gi22, gi27, gi23, rW0, rD0, rC0, gB, gP, gX, gF⟩ := HI.out
       exact hK'.out _ _ ⟨.mk .., rfl, rfl, h0, h1, h2, h3, h4, h5, h6, h7, h8, h9, h10, h11, h12, h13, h14, h15, h16, h17, h18, h19, h20, h22, h24, h25, h26, gi22, gi27, (fun _ => (gi22 e22)), rW0, rD0, rC0, gB, (fun _ => ⟨ra, rc, rfl, hp⟩), (fun _ => ⟨ra, rc, rfl, hp⟩), gF⟩
     · obtain ⟨rfl, e22⟩ : b24 = false ∧ b22 = true := by revert hp; cases b24 <;> cases b22 <;> simp
       clear hp
       obtain rfl := (HI.out.2.2.2.2.2.2.2.2.2.2.2.2.2.2.2.2.2.2.2.2.2.1) e22
       refine inv_op (o := ⟨some 70, _, _, _, _, _⟩) rfl (fun K' hK' => ?_)
       have gi22 := HI.out.2.2.2.2.2.2.2.2.2.2.2.2.2.2.2.2.2.2.2.2.2.2.2.2.2.1
       have gP := HI.out.2.2.2.2.2.2.2.2.2.2.2.2.2.2.2.2.2.2.2.2.2.2.2.2.2.2.2.2.2.2.2.2.1
       obtain ⟨ra, rc, rfl, hp⟩ := gP ((gi22 e22))
       go_simp
       exact hK'.out _ _ ⟨.mk .., rfl, rfl, Nx16 (Nx16 (Upd (fun _ => ⟨ra, rc, rfl, hp⟩))) (Nxt (Nxt (Nx4 (Nx16 (Upd (fun _ => rfl))))) HI.out)⟩
     · obtain ⟨rfl, e0⟩ : b25 = false ∧ b0 = true := by revert hp; cases b25 <;> cases b0 <;> simp
       clear hp
       obtain rfl := (HI.out.1) e0
       refine inv_op (o := ⟨some 71, _, _, _, _, _⟩) rfl (fun K' hK' => ?_)
       go_simp
       exact hK'.out _ _ ⟨.mk .., rfl, rfl, Nxt (Nxt (Nxt (Nx4 (Nx16 (Upd (fun _ => rfl)))))) HI.out⟩
     · obtain ⟨rfl, e25⟩ : b26 = false ∧ b25 = true := by revert hp; cases b26 <;> cases b25 <;> simp
       clear hp
       obtain rfl := (HI.out.2.2.2.2.2.2.2.2.2.2.2.2.2.2.2.2.2.2.2.2.2.2.2.1) e25
       refine inv_op (o := ⟨some 72, _, _, _, _, _⟩) rfl (fun K' hK' => ?_)
       go_simp
       exact hK'.out _ _ ⟨.mk .., rfl, rfl, Nx4 (Nx4 (Nx16 (Upd (fun _ => rfl)))) HI.out⟩
     · have hn27 : b27 = false := by revert hp; cases b27 <;> simp
       have e23 : b23 = true := by revert hp; cases b23 <;> simp
       have e26 : b26 = true := by revert hp; cases b26 <;> simp
       have e21 : b21 = true := by revert hp; cases b21 <;> simp
       have e4 : b4 = true := by revert hp; cases b4 <;> simp
       have e9 : b9 = true := by revert hp; cases b9 <;> simp
       have e14 : b14 = true := by revert hp; cases b14 <;> simp
       have e16 : b16 = true := by revert hp; cases b16 <;> simp
       have e19 : b19 = true := by revert hp; cases b19 <;> simp
       have e20 : b20 = true := by revert hp; cases b20 <;> simp
       clear hp
       obtain rfl := (HI.out.2.2.2.2.2.2.2.2.2.2.2.2.2.2.2.2.2.2.2.2.2.2.2.2.1) e26
       subst hn27
       refine inv_op (o := ⟨none, _, _, _, _, _⟩) rfl (fun K' hK' => ?_)
       have rW0 := HI.out.2.2.2.2.2.2.2.2.2.2.2.2.2.2.2.2.2.2.2.2.2.2.2.2.2.2.2.2.1
       have gB := HI.out.2.2.2.2.2.2.2.2.2.2.2.2.2.2.2.2.2.2.2.2.2.2.2.2.2.2.2.2.2.2.2.1
       have gX := HI.out.2.2.2.2.2.2.2.2.2.2.2.2.2.2.2.2.2.2.2.2.2.2.2.2.2.2.2.2.2.2.2.2.2.1
       obtain ⟨ra, rc, rfl, hx⟩ := gX e23
       have hrow := rW0 rfl
       have hgb := gB rfl
       obtain ⟨hc, hz⟩ := at_cell hrow 6 _ rfl
       have hlx := (Array.getElem?_eq_some_iff.1 hrow).1
       go_simp
       obtain ⟨h0, h1, h2, h3, h4, h5, h6, h7, h8, h9, h10, h11, h12, h13, h14, h15, h16, h17, h18, h19, h20, h22, h24, h25, h26, gi22, gi27, gi23, rW0, rD0, rC0, gB, gP, gX, gF⟩ := HI.out
       exact hK'.out _ _ ⟨.mk .., rfl, rfl, h0, h1, h2, h3, h4, h5, h6, h7, h8, h9, h10, h11, h12, h13, h14, h15, h16, h17, h18, h19, h20, h22, h24, h25, h26, gi22, (fun _ => ⟨e4, e9, e14, e16, e19, e20, e21⟩), gi23, (fun e => by cases e), (fun e => by cases e), (fun e => by cases e), (fun e => by cases e), (fun e => by obtain ⟨y0, y1, h1, h2⟩ := gP e; exact ⟨y0, y1, h1, h2.stay hrow (by decide) 6 _⟩), (fun _ => ⟨ra, rc, rfl, hx.stay hrow (by decide) 6 _⟩), (fun _ => ⟨ra, rc, W, rfl, hgb, hx⟩)⟩
    case hdone =>
     rintro ⟨b0, b1, b2, b3, b4, b5, b6, b7, b8, b9, b10, b11, b12, b13, b14, b15, b16, b17, b18, b19, b20, b21, b22, b23, b24, b25, b26, b27, s47, s48, s49, s50, s51, s52, s53, s54, s55, s56, s57, s58, s59, s60, s61, s62, s63, s64, s65, s66, s67, s68, s46, s69, s70, s71, s72⟩ W hI hall
     dsimp only at hI hall ⊢
     have HI := Lib.hid hI
     clear hI
     obtain rfl : b0 = true := hall 0 (by decide)
     obtain rfl : b1 = true := hall 1 (by decide)
     obtain rfl : b2 = true := hall 2 (by decide)
     obtain rfl : b3 = true := hall 3 (by decide)
     obtain rfl : b4 = true := hall 4 (by decide)
     obtain rfl : b5 = true := hall 5 (by decide)
     obtain rfl : b6 = true := hall 6 (by decide)
     obtain rfl : b7 = true := hall 7 (by decide)
     obtain rfl : b8 = true := hall 8 (by decide)
     obtain rfl : b9 = true := hall 9 (by decide)
     obtain rfl : b10 = true := hall 10 (by decide)
     obtain rfl : b11 = true := hall 11 (by decide)
     obtain rfl : b12 = true := hall 12 (by decide)
     obtain rfl : b13 = true := hall 13 (by decide)
     obtain rfl : b14 = true := hall 14 (by decide)
     obtain rfl : b15 = true := hall 15 (by decide)
     obtain rfl : b16 = true := hall 16 (by decide)
     obtain rfl : b17 = true := hall 17 (by decide)
     obtain rfl : b18 = true := hall 18 (by decide)
     obtain rfl : b19 = true := hall 19 (by decide)
     obtain rfl : b20 = true := hall 20 (by decide)
     obtain rfl : b21 = true := hall 21 (by decide)
     obtain rfl : b22 = true := hall 22 (by decide)
     obtain rfl : b23 = true := hall 23 (by decide)
     obtain rfl : b24 = true := hall 24 (by decide)
     obtain rfl : b25 = true := hall 25 (by decide)
     obtain rfl : b26 = true := hall 26 (by decide)
     obtain rfl : b27 = true := hall 27 (by decide)
     have gF := HI.out.2.2.2.2.2.2.2.2.2.2.2.2.2.2.2.2.2.2.2.2.2.2.2.2.2.2.2.2.2.2.2.2.2.2
     clear HI hall
     obtain ⟨ra, rc, w6, rfl, hb6, ho6⟩ := gF rfl
     have hw6 := ((HWw.out.below HBXw.out).below hb6).setM ho6
     have hr6 := row_keep (row_keep HRw.out HBXw.out) hb6
     have hbb := HBXw.out.trans (hb6.mono HBXw.out.size)
     have HW6 := Lib.hid hw6
     have HR6 := Lib.hid (one_other hr6 ⟨g, 6, none⟩ (.slice ra L rc) (blocks_ne hr6 (row_keep HWw.out.row hbb) (fun e => tChW e.symm)))
     have HS6 := Lib.hid ((HSw.out.trans (Spare.of_below hbb (Nat.le_trans HBB.out HSw.out.size) _)).trans (Spare.set (i := 6) (u := .slice ra L rc) (row_keep HWw.out.row hbb) rfl HWw.out.lo))
     clear gF hb6 ho6 hw6 hr6 hbb
     go_wp2
     go_roundw
     case rel => exact ⟨k + 1, ra, rc, by omega, by go_num, by rw [HL2.out]; exact HW6.out, HR6.out, HS6.out⟩
     case measure => simp [intOf]; omega
  · obtain rfl : n = k := by omega
    have HE := Lib.hid (show WorkB B wr g _ _ _ _ D (layK l bq ds bs n) from HWw.out)
    go_wp2
    refine bodyPost_end (v := .tuple #[]) (by simp [results, Tryz.results27]) rfl ⟨.slice ma L mc, rfl, HE.out, HSw.out⟩
end Go.Proofs.YtnmekbbnglkmcaaGreat
namespace Go.Proofs.YtnmekbbnglkmcaaGreat
open Go.RowKit Go.Lib
theorem four_boxes (w : World) (cs ds es fs : Array Value) (s t q p : TypeId) : ((((w.alloc (.cells cs s)).alloc (.cells ds t)).alloc (.cells es q)).alloc (.cells fs p)).heap[w.heap.size]? = some (.cells cs s (0, 0)) ∧ ((((w.alloc (.cells cs s)).alloc (.cells ds t)).alloc (.cells es q)).alloc (.cells fs p)).heap[w.heap.size + 1]? = some (.cells ds t (0, 0)) ∧ ((((w.alloc (.cells cs s)).alloc (.cells ds t)).alloc (.cells es q)).alloc (.cells fs p)).heap[w.heap.size + 2]? = some (.cells es q (0, 0)) ∧ ((((w.alloc (.cells cs s)).alloc (.cells ds t)).alloc (.cells es q)).alloc (.cells fs p)).heap[w.heap.size + 3]? = some (.cells fs p (0, 0)) ∧ Below w.heap.size w ((((w.alloc (.cells cs s)).alloc (.cells ds t)).alloc (.cells es q)).alloc (.cells fs p)) := by
 obtain ⟨h0, h1, h2, h3⟩ := three_boxes w cs ds es s t q
 exact ⟨row_new h0 _, row_new h1 _, row_new h2 _, by simpa using heap_alloc_new (((w.alloc (.cells cs s)).alloc (.cells ds t)).alloc (.cells es q)) (.cells fs p), h3.alloc (by simp; omega) _⟩
def addM (l : List UInt8) (B N : Nat) (q : QQ) (bs : List QB) : List UInt8 := offerD (layK l B (q.free.take bs.length) bs bs.length) B N q.avail (q.free.getD 0 0).toNat
theorem addM_length {l : List UInt8} {B N : Nat} {q : QQ} {bs : List QB} (hok : RingOk l.length B N) (hg : GoodQ q N) (hn : bs.length ≤ q.free.length) : (addM l B N q bs).length = l.length := by
 have h1 := layK_length (bs := bs) hok (ds := q.free.take bs.length) (fun d hd => hg.freeIn (List.mem_of_mem_take hd)) bs.length (by rw [List.length_take]; omega)
 rw [addM, offerD_length _ _ (by rw [h1]; exact hok), h1]
structure QueAddA where
 (b0 b1 b2 b3 b4 b5 b6 b7 b8 b9 b10 b11 b12 b13 b14 b15 b16 b17 b18 b19 b20 b21 b22 b23 b24 b25 b26 b27 b28 : Bool)
 (s41 s42 s43 s44 s45 s46 s47 s48 s49 s50 s51 s52 s53 s54 s55 s56 s57 s58 s59 s60 s61 s62 s63 s40 s64 s65 s66 s67 : Value)
structure QueAddB where
 (b0 b1 b2 b3 b4 b5 b6 b7 b8 b9 b10 b11 b12 b13 : Bool)
 (s77 s78 s79 s80 s81 s82 s83 s84 s85 s86 s8 s9 : Value)
structure QueAddC where
 (b0 b1 b2 b3 b4 b5 b6 b7 b8 b9 b10 : Bool)
 (s26 s27 s28 s29 s30 s31 s32 s8 s9 : Value)
set_option maxHeartbeats 4000000 in
set_option maxRecDepth 100000 in
theorem add_ok (q : QQ) (N bq : Nat) (F C v bv : Value) (D : List Value) (l : List UInt8) (bs : List QB) (w : World) (hv : OwnB 0 w v l) (hq : IsQ 0 w F C q D) (hbf : OwnBf 0 w bv bs) (hg : GoodQ q N) (hbq : q.base = (bq : Nat)) (hok : RingOk l.length bq N) (h1 : 1 ≤ bs.length) (h2 : bs.length ≤ q.free.length) (h4 : bs.length ≤ N) (h3 : ∀ x ∈ bs, InB l.length x) :
 Calls Tryz.prog 9 #[.agg #[v], .agg #[.int .i64 q.base, .int .i64 q.size, F, .int .u16 (q.avail : Nat), .int .u16 (q.last : Nat), C], bv] w fun e w' => ∃ ra rc F2 C2 D2, e = .returned (.tuple #[.agg #[.slice ra l.length rc], .agg #[.int .i64 q.base, .int .i64 q.size, F2, .int .u16 (((q.avail + 1) % 65536) : Nat), .int .u16 (q.last : Nat), C2], .int .i64 (q.free.getD 0 0), .int .i64 0]) ∧ OwnB 0 w' (.slice ra l.length rc) (addM l bq N q bs) ∧ IsQ 0 w' F2 C2 (addQ q bs) D2 ∧ Below w.heap.size w w' := by
 obtain ⟨few1, few2, few3, few4, few5⟩ := hg.few
 obtain ⟨fa, fn, fc, ca, cn, cc, rfl, rfl, hfn, hcn, k1, k2, k3, k4⟩ := hq.shape
 have hzN := hg.size
 obtain ⟨b, z, fr, av, la, ch⟩ := q
 simp only at *
 subst hbq
 subst hzN
 obtain ⟨va, vc, rfl, hv1, hv2⟩ := hv.shape
 obtain ⟨L, hL⟩ : ∃ L, L = l.length := ⟨_, rfl⟩
 rw [← hL] at hv hok h3 hv1 ⊢
 obtain ⟨ba, bc, rfl, hb1, hb2⟩ := hbf.shape
 obtain ⟨n, hn⟩ : ∃ n, n = bs.length := ⟨_, rfl⟩
 rw [← hn] at h1 h2 h4 hb1 hbf ⊢
 obtain ⟨t0, t1, t2, t3, t4⟩ := four_boxes w #[.slice va L vc] #[.int .i64 (bq : Nat), .int .i64 (N : Nat), .slice fa fn fc, .int .u16 (av : Nat), .int .u16 (la : Nat), .slice ca cn cc] #[.slice none 0 0] #[.int .i64 0, .int .i64 0, .slice none 0 0, .int .u16 0, .int .u16 0, .slice none 0 0] 26 30 26 30
 have HM := Lib.hid t0
 have HA := Lib.hid t2
 have HR := Lib.hid t3
 have HB := Lib.hid t4
 have HQ := Lib.hid (hq.below t4)
 have HO := Lib.hid (hv.below t4)
 have HBF := Lib.hid (hbf.below t4)
 have HG := Lib.hid hg
 have HOK := Lib.hid hok
 have HIN := Lib.hid h3
 have HN := Lib.hid hn
 have HLL := Lib.hid hL.symm
 have HL8 := Lib.hid (show l.length ≤ 140737488355328 by have := hok.few; omega)
 have HBS := Lib.hid (show ((((w.alloc (.cells #[.slice va L vc] 26)).alloc (.cells #[.int .i64 (bq : Nat), .int .i64 (N : Nat), .slice fa fn fc, .int .u16 (av : Nat), .int .u16 (la : Nat), .slice ca cn cc] 30)).alloc (.cells #[.slice none 0 0] 26)).alloc (.cells #[.int .i64 0, .int .i64 0, .slice none 0 0, .int .u16 0, .int .u16 0, .slice none 0 0] 30)).heap.size = w.heap.size + 4 by simp)
 have HF1 := Lib.hid h1
 have HF2 := Lib.hid h2
 have HF4 := Lib.hid h4
 have HFN := Lib.hid hfn
 clear hq hg hv hbf hok h3 hfn hcn k1 k2 k3 k4 hv1 hv2 hb1 hb2 hL hn t0 t1 t2 t3 t4 few1 few2 few3 few4 few5 h1 h2 h4
 go_enter Tryz.func9, Tryz.ntmps9
 go_wp2_with fail
 refine (begin_any ⟨(bq : Nat), (N : Nat), fr, av, la, ch⟩ N _ _ _ D l _ HO.out HQ.out HG.out (by rw [HLL.out]; exact HOK.out.ok)).mono ?_
 rintro e w1 ⟨g, F2, C2, E, rfl, hw, hb⟩
 obtain ⟨f2, n2, k2, c2, m2, j2, rfl, rfl, q1, q2, q3, q4, q5, q6⟩ := hw.isq.shape
 clear q1 q2 q3 q4 q5 q6
 have HM1 := Lib.hid (row_keep HM.out hb)
 have HA1 := Lib.hid (row_keep HA.out hb)
 have HR1 := Lib.hid (row_keep HR.out hb)
 have HB1 := Lib.hid (HB.out.trans (hb.mono HB.out.size))
 have HBF1 := Lib.hid (HBF.out.below hb)
 rw [HBS.out] at hw
 have HW1 := Lib.hid hw
 have HS1 := Lib.hid (show w.heap.size + 4 ≤ w1.heap.size by have := hb.size; rw [HBS.out] at this; exact this)
 clear hw hb HM HA HR HB HQ HO HBF
 go_wp2_with fail
 refine (addFault_any _ g ⟨(bq : Nat), (N : Nat), fr, av, la, ch⟩ N _ _ _ _ _ l bs 0 _ HW1.out HBF1.out HG.out (by rw [HLL.out]; exact HOK.out.few) (by rw [← HN.out]; exact HF1.out) (by rw [← HN.out]; exact HF4.out) (by rw [HLL.out]; exact HIN.out) (.inl ⟨by rw [← HN.out]; exact HF2.out, rfl⟩)).mono ?_
 rintro e w2 ⟨rfl, hb⟩
 have HM2 := Lib.hid (row_keep HM1.out hb)
 have HA2 := Lib.hid (row_keep HA1.out hb)
 have HQ2 := Lib.hid (row_keep HR1.out hb)
 have HB2 := Lib.hid (HB1.out.trans (hb.mono HB1.out.size))
 have HBF2 := Lib.hid (HBF1.out.below hb)
 have HW2 := Lib.hid (HW1.out.below hb)
 have HS2 := Lib.hid (Nat.le_trans HS1.out hb.size)
 clear hb HM1 HA1 HR1 HB1 HBF1 HW1 HS1
 obtain ⟨B, hBB⟩ : ∃ B, B = w.heap.size + 4 := ⟨_, rfl⟩
 rw [← hBB] at HW2 HS2
 have HBQ := Lib.hid hBB
 clear hBB
 go_wp2_with fail
 refine (chain_any B g ⟨(bq : Nat), (N : Nat), fr, av, la, ch⟩ N _ _ _ _ _ l bs _ HW2.out HBF2.out HG.out (by rw [← HN.out]; exact HF1.out) (by rw [← HN.out]; exact HF2.out) (by rw [HLL.out]; exact HIN.out) (by rw [HLL.out]; exact HOK.out.few) HS2.out).mono ?_
 rintro e w3 ⟨F3, C3, Dv, rfl, hw3, hd3, hs3⟩
 obtain ⟨f2, n2, k2, c2, m2, j2, rfl, rfl, q1, q2, q3, q4, q5, q6⟩ := hw3.isq.shape
 clear q1 q2 q3 q4 q5 q6
 obtain ⟨da, dc, rfl, q1, q2⟩ := hd3.shape
 clear q1 q2
 have hhd : 0 ≤ fr.getD 0 0 ∧ fr.getD 0 0 < (N : Int) := by
  have h0 : 0 < fr.length := by have h1 := HF1.out; have h2 : n ≤ fr.length := HF2.out; omega
  have h3 := HG.out.freeIn (d := fr[0]) (List.getElem_mem h0)
  have h4 : fr.getD 0 0 = fr[0] := by simp [List.getD_eq_getElem?_getD, h0]
  rw [h4]; exact h3
 obtain ⟨hd, hhd1⟩ := Int.eq_ofNat_of_zero_le hhd.1
 have HHD := Lib.hid hhd1
 have HHN := Lib.hid (show hd < N by omega)
 have hn16 : N ≤ 16 := HG.out.few.2.2.1
 have hNN := HN.out
 have hac : (addC ⟨(bq : Nat), (N : Nat), fr, av, la, ch⟩ bs).head = (hd : Nat) := hhd1
 rw [hac]
 obtain ⟨rm, hrm⟩ : ∃ x, (addC ⟨(bq : Nat), (N : Nat), fr, av, la, ch⟩ bs).room = x := ⟨_, rfl⟩
 rw [hrm]
 have hds : (addC ⟨(bq : Nat), (N : Nat), fr, av, la, ch⟩ bs).ds = fr.take bs.length := rfl
 rw [hds] at hd3 ⊢
 have hdl : (fr.take bs.length).length = n := by rw [List.length_take, hNN]; have h2 : n ≤ fr.length := HF2.out; omega
 rw [hdl] at hd3 ⊢
 rw [hds, hdl] at hw3
 obtain ⟨fr8, hfr8⟩ : ∃ x, x = fr.drop bs.length := ⟨_, rfl⟩
 obtain ⟨ch8, hch8⟩ : ∃ x, x = ch ++ [addC ⟨(bq : Nat), (N : Nat), fr, av, la, ch⟩ bs] := ⟨_, rfl⟩
 obtain ⟨E8, hE8⟩ : ∃ x, x = E ++ [.slice da n dc] := ⟨_, rfl⟩
 have hw3 : WorkB B w3 g ⟨(bq : Nat), (N : Nat), fr8, av, la, ch8⟩ (.slice f2 n2 k2) (.slice c2 m2 j2) (.slice va L vc) E8 l := by rw [hfr8, hch8, hE8]; exact hw3
 have HFR8 := Lib.hid hfr8
 have HCH8 := Lib.hid hch8
 have HA3 := Lib.hid (hs3.row _ _ _ _ HA2.out rfl)
 have HQ3 := Lib.hid (hs3.row _ _ _ _ HQ2.out rfl)
 have HBF3 := Lib.hid (show OwnBf 0 w3 _ bs from hs3.owns HBF2.out rfl)
 have HB3 := Lib.hid (HB2.out.trans (hs3.below.mono (by rw [HBQ.out]; omega)))
 have HS3 := Lib.hid (Nat.le_trans HS2.out hs3.size)
 have HW3 := Lib.hid hw3
 have HD3 := Lib.hid hd3
 clear hw3 hd3 hs3 hhd hhd1 hac hrm hds hNN hfr8 hch8 hE8
 obtain ⟨OB, hOB⟩ : ∃ o : Obj, o = (.cells #[.int .i64 (hd : Nat), .slice da n dc, .int .i64 rm] 76) := ⟨_, rfl⟩
 have hal : Below w3.heap.size w3 (w3.alloc OB) := (Below.refl _ _).alloc (Nat.le_refl _) _
 have HX4 := Lib.hid (show (w3.alloc OB).heap[w3.heap.size]? = some (.cells #[.int .i64 (hd : Nat), .slice da n dc, .int .i64 rm] 76 (0, 0)) from by rw [hOB]; exact heap_alloc_new w3 _)
 have HA4 := Lib.hid (row_keep HA3.out hal)
 have HQ4 := Lib.hid (row_keep HQ3.out hal)
 have HBF4 := Lib.hid (HBF3.out.below hal)
 have HB4 := Lib.hid (HB3.out.trans (hal.mono HB3.out.size))
 have HS4 := Lib.hid (Nat.le_trans HS3.out hal.size)
 have HW4 := Lib.hid (HW3.out.below hal)
 have HD4 := Lib.hid ((HD3.out.below hal).base (Nat.zero_le _))
 obtain ⟨⟨x0, x1, x2⟩, _⟩ := cells_three HX4.out
 rw [hOB] at x0 x1 x2
 have HOB := Lib.hid hOB
 clear hal hOB
 go_wp2_with fail
 rw [← HOB.out]
 refine (lay_any B g bq N _ _ _ _ _ _ _ l (hd : Nat) rm (fr.take bs.length) bs _ HW4.out HBF4.out HD4.out (by rw [HLL.out]; exact HOK.out) rfl rfl (by rw [hdl, HN.out]) (by rw [← HN.out]; exact HF1.out) (by rw [← HN.out]; have := HF4.out; omega) (by rw [HLL.out]; exact HIN.out) (fun d hd => HG.out.freeIn (List.mem_of_mem_take hd)) HS4.out).mono ?_
 rintro e w5 ⟨M2, rfl, hw5, hs5⟩
 have hav : av < 65536 := HG.out.av
 have hl5 := addM_length (q := ⟨(bq : Nat), (N : Nat), fr, av, la, ch⟩) (bs := bs) (by rw [HLL.out]; exact HOK.out) HG.out (by rw [← HN.out]; exact HF2.out)
 obtain ⟨l3, hl3⟩ : ∃ x, addM l bq N ⟨(bq : Nat), (N : Nat), fr, av, la, ch⟩ bs = x := ⟨_, rfl⟩
 rw [hl3, HLL.out] at hl5
 have hll := layK_length (l := l) (bs := bs) (by rw [HLL.out]; exact HOK.out) (fun d hd => HG.out.freeIn (List.mem_of_mem_take hd)) bs.length (by rw [hdl, HN.out]; exact Nat.le_refl _)
 rw [HLL.out] at hll
 have hl3b : offerD (layK l bq (fr.take bs.length) bs bs.length) bq N av hd = l3 := by
  rw [← hl3, addM]
  simp only
  rw [HHD.out]
  rfl
 obtain ⟨l4, hl4⟩ : ∃ x, layK l bq (fr.take bs.length) bs bs.length = x := ⟨_, rfl⟩
 rw [hl4] at hw5 hll hl3b
 obtain ⟨ma, mc, rfl, q1, q2⟩ := hw5.mem.shape
 rw [hll] at hw5
 have hok4 : RingOk l4.length bq N := by rw [hll]; exact HOK.out
 have HA5 := Lib.hid (hs5.row _ _ _ _ HA4.out rfl)
 have HQ5 := Lib.hid (hs5.row _ _ _ _ HQ4.out rfl)
 have HX5 := Lib.hid (hs5.row _ _ _ _ HX4.out rfl)
 have HB5 := Lib.hid (HB4.out.trans (hs5.below.mono (by rw [HBQ.out]; omega)))
 have HW5 := Lib.hid hw5
 have HOF := Lib.hid (show ∀ W, Below w5.heap.size w5 W → Calls Tryz.prog 28 #[.agg #[.slice ma L mc], .int .i64 (bq : Nat), .int .i64 (N : Nat), .int .u16 (av : Nat), .int .i64 (hd : Nat)] W fun e w' => ∃ ra rc, e = .returned (.tuple #[.agg #[.slice ra L rc], .int .i64 0]) ∧ OwnB 0 w' (.slice ra L rc) l3 ∧ Below W.heap.size W w' from fun W hb => by
  have hm := hw5.mem.below hb
  have hdl2 := HHN.out
  refine (offer_any _ l4 (bq : Nat) (N : Nat) av hav (hd : Nat) 0 l3 (ringF_ok hok4) ((offerX_ok hok4 av (hd : Nat)).trans (by rw [show (((hd : Nat) : Int) % 65536).toNat = hd by omega]; exact hl3b)) (by have := HOK.out.few; omega) W hm.arg).mono ?_
  rintro e w' ⟨ra, rc, rfl, hgv, hbw⟩
  rw [hll] at hgv ⊢
  exact ⟨ra, rc, rfl, hgv.ownB hm hbw, hbw⟩)
 have HL3 := Lib.hid hl3
 obtain ⟨a1, ha1⟩ : ∃ a, a = (av + 1) % 65536 := ⟨_, rfl⟩
 have HA1 := Lib.hid ha1
 have hw16 : IntKind.u16.wrap (((av : Nat) : Int) + 1) = (a1 : Nat) := by simp [IntKind.wrap, IntKind.bits, IntKind.signed]; omega
 clear hw5 hs5 x0 x1 x2 hav hl5 hl3 hll hl3b hl4 hok4 q1 q2 ha1 HA2 HQ2 HBF2 HW2 HM2 HB2 HA3 HQ3 HBF3 HB3 HW3 HD3 HA4 HQ4 HBF4 HB4 HW4 HD4 HX4 hdl hn16
 go_wp2_with fail
 refine wp_region_rec (X := QueAddA) (by kernel_rfl) (by kernel_rfl) (fun x => #[x.b0, x.b1, x.b2, x.b3, x.b4, x.b5, x.b6, x.b7, x.b8, x.b9, x.b10, x.b11, x.b12, x.b13, x.b14, x.b15, x.b16, x.b17, x.b18, x.b19, x.b20, x.b21, x.b22, x.b23, x.b24, x.b25, x.b26, x.b27, x.b28]) (fun x => { tmps := List.toArray ((.agg #[.slice va L vc]) :: (.agg #[.int .i64 (bq : Nat), .int .i64 (N : Nat), .slice fa fn fc, .int .u16 (av : Nat), .int .u16 (la : Nat), .slice ca cn cc]) :: (.slice ba n bc) :: (.pointer (some ⟨w.heap.size, 0, none⟩)) :: (.pointer (some ⟨w.heap.size + 1, 0, none⟩)) :: undef :: (.pointer (some ⟨w.heap.size + 1 + 1, 0, none⟩)) :: (.pointer (some ⟨w.heap.size + 1 + 1 + 1, 0, none⟩)) :: (.int .i64 0) :: (.int .i64 0) :: (.pointer (some ⟨g, 0, none⟩)) :: (.int .i64 0) :: (.pointer (some ⟨w3.heap.size, 0, none⟩)) :: (.tuple #[.pointer (some ⟨g, 0, none⟩), .int .i64 0]) :: (.agg #[.slice va L vc]) :: (.agg #[.int .i64 (bq : Nat), .int .i64 (N : Nat), .slice fa fn fc, .int .u16 (av : Nat), .int .u16 (la : Nat), .slice ca cn cc]) :: (.tuple #[.pointer (some ⟨g, 0, none⟩), .int .i64 0]) :: (.pointer (some ⟨g, 0, none⟩)) :: (.int .i64 0) :: (.int .i64 0) :: (.bool true) :: (.pointer (some ⟨g, 0, none⟩)) :: (.slice ba n bc) :: (.int .i64 0) :: (.int .i64 0) :: (.bool false) :: undef :: undef :: undef :: undef :: undef :: undef :: undef :: (.pointer (some ⟨g, 0, none⟩)) :: (.slice ba n bc) :: (.agg #[.int .i64 (hd : Nat), .slice da n dc, .int .i64 rm]) :: (.pointer (some ⟨g, 0, none⟩)) :: (.agg #[.int .i64 (hd : Nat), .slice da n dc, .int .i64 rm]) :: (.slice ba n bc) :: (.tuple #[]) :: x.s40 :: x.s41 :: x.s42 :: x.s43 :: x.s44 :: x.s45 :: x.s46 :: x.s47 :: x.s48 :: x.s49 :: x.s50 :: x.s51 :: x.s52 :: x.s53 :: x.s54 :: x.s55 :: x.s56 :: x.s57 :: x.s58 :: x.s59 :: x.s60 :: x.s61 :: x.s62 :: x.s63 :: x.s64 :: x.s65 :: x.s66 :: x.s67 :: undef :: undef :: undef :: undef :: undef :: undef :: undef :: undef :: undef :: undef :: undef :: undef :: undef :: undef :: undef :: undef :: undef :: undef :: undef :: []), defers := [] }) (fun x W => (x.b0 = true → x.s41 = .pointer (some ⟨g, 0, none⟩)) ∧ (x.b1 = true → x.s42 = .pointer (some ⟨g, 0, none⟩)) ∧ (x.b2 = true → x.s43 = .pointer (some ⟨g, 0, none⟩)) ∧ (x.b3 = true → x.s44 = .pointer (some ⟨g, 6, none⟩)) ∧ (x.b4 = true → x.s45 = .agg #[.slice ma L mc]) ∧ (x.b5 = true → x.s46 = .pointer (some ⟨g, 0, none⟩)) ∧ (x.b6 = true → x.s47 = .pointer (some ⟨g, 0, none⟩)) ∧ (x.b7 = true → x.s48 = .pointer (some ⟨g, 0, none⟩)) ∧ (x.b8 = true → x.s49 = .pointer (some ⟨g, 0, none⟩)) ∧ (x.b9 = true → x.s50 = .int .i64 (bq : Nat)) ∧ (x.b10 = true → x.s51 = .pointer (some ⟨g, 0, none⟩)) ∧ (x.b11 = true → x.s52 = .pointer (some ⟨g, 0, none⟩)) ∧ (x.b12 = true → x.s53 = .pointer (some ⟨g, 0, none⟩)) ∧ (x.b13 = true → x.s54 = .pointer (some ⟨g, 1, none⟩)) ∧ (x.b14 = true → x.s55 = .int .i64 (N : Nat)) ∧ (x.b15 = true → x.s56 = .pointer (some ⟨g, 0, none⟩)) ∧ (x.b16 = true → x.s57 = .pointer (some ⟨g, 0, none⟩)) ∧ (x.b17 = true → x.s58 = .pointer (some ⟨g, 0, none⟩)) ∧ (x.b18 = true → x.s59 = .pointer (some ⟨g, 3, none⟩)) ∧ (x.b19 = true → x.s60 = .int .u16 (av : Nat)) ∧ (x.b20 = true → x.s61 = .pointer (some ⟨w3.heap.size, 0, none⟩)) ∧ (x.b21 = true → x.s62 = .int .i64 (hd : Nat)) ∧ (x.b23 = true → x.s40 = x.s63) ∧ (x.b25 = true → x.s65 = .int .i64 0) ∧ (x.b26 = true → x.s66 = .pointer (some ⟨g, 0, none⟩)) ∧ (x.b27 = true → x.s67 = .pointer (some ⟨g, 6, none⟩)) ∧ (x.b23 = true → x.b22 = true) ∧ (x.b28 = true → x.b4 = true ∧ x.b9 = true ∧ x.b14 = true ∧ x.b19 = true ∧ x.b21 = true ∧ x.b22 = true) ∧ (x.b24 = true → x.b22 = true) ∧ (x.b28 = false → W.heap[g]? = some (.cells #[.int .i64 (bq : Nat), .int .i64 (N : Nat), .slice f2 n2 k2, .int .u16 (av : Nat), .int .u16 (la : Nat), .slice c2 m2 j2, .slice ma L mc] 74 (0, 0))) ∧ (x.b28 = false → W.heap[w3.heap.size]? = some (.cells #[.int .i64 (hd : Nat), .slice da n dc, .int .i64 rm] 76 (0, 0))) ∧ (x.b28 = false → Below w5.heap.size w5 W) ∧ (x.b22 = true → ∃ ra rc, x.s63 = .tuple #[.agg #[.slice ra L rc], .int .i64 0] ∧ OwnB 0 W (.slice ra L rc) l3) ∧ (x.b24 = true → ∃ ra rc, x.s64 = .agg #[.slice ra L rc] ∧ OwnB 0 W (.slice ra L rc) l3) ∧ (x.b28 = true → ∃ ra rc w6, W = w6.setCell ⟨g, 6, none⟩ (.slice ra L rc) ∧ Below w5.heap.size w5 w6 ∧ OwnB 0 w6 (.slice ra L rc) l3)) ⟨false, false, false, false, false, false, false, false, false, false, false, false, false, false, false, false, false, false, false, false, false, false, false, false, false, false, false, false, false, undef, undef, undef, undef, undef, undef, undef, undef, undef, undef, undef, undef, undef, undef, undef, undef, undef, undef, undef, undef, undef, undef, undef, undef, undef, undef, undef, undef⟩ rfl rfl ⟨(fun h => by cases h), (fun h => by cases h), (fun h => by cases h), (fun h => by cases h), (fun h => by cases h), (fun h => by cases h), (fun h => by cases h), (fun h => by cases h), (fun h => by cases h), (fun h => by cases h), (fun h => by cases h), (fun h => by cases h), (fun h => by cases h), (fun h => by cases h), (fun h => by cases h), (fun h => by cases h), (fun h => by cases h), (fun h => by cases h), (fun h => by cases h), (fun h => by cases h), (fun h => by cases h), (fun h => by cases h), (fun h => by cases h), (fun h => by cases h), (fun h => by cases h), (fun h => by cases h), (fun h => by cases h), (fun h => by cases h), (fun h => by cases h), (fun _ => HW5.out.row), (fun _ => HX5.out), (fun _ => (Below.refl _ _).drew), (fun h => by cases h), (fun h => by cases h), (fun h => by cases h)⟩ (fun _ => rfl) ?hstep ?hdone
 case hstep =>
  rintro ⟨b0, b1, b2, b3, b4, b5, b6, b7, b8, b9, b10, b11, b12, b13, b14, b15, b16, b17, b18, b19, b20, b21, b22, b23, b24, b25, b26, b27, b28, s41, s42, s43, s44, s45, s46, s47, s48, s49, s50, s51, s52, s53, s54, s55, s56, s57, s58, s59, s60, s61, s62, s63, s40, s64, s65, s66, s67⟩ W hI i hi
  dsimp only at hI hi ⊢
  have HI := Lib.hid hI
  clear hI
  rw [Region.ready, List.mem_filter, List.mem_range] at hi
  obtain ⟨hlt, hp⟩ := hi
  have hi7 : i = 0 ∨ i = 1 ∨ i = 2 ∨ i = 3 ∨ i = 4 ∨ i = 5 ∨ i = 6 ∨ i = 7 ∨ i = 8 ∨ i = 9 ∨ i = 10 ∨ i = 11 ∨ i = 12 ∨ i = 13 ∨ i = 14 ∨ i = 15 ∨ i = 16 ∨ i = 17 ∨ i = 18 ∨ i = 19 ∨ i = 20 ∨ i = 21 ∨ i = 22 ∨ i = 23 ∨ i = 24 ∨ i = 25 ∨ i = 26 ∨ i = 27 ∨ i = 28 := by simp at hlt; omega
  clear hlt
  rcases hi7 with rfl | rfl | rfl | rfl | rfl | rfl | rfl | rfl | rfl | rfl | rfl | rfl | rfl | rfl | rfl | rfl | rfl | rfl | rfl | rfl | rfl | rfl | rfl | rfl | rfl | rfl | rfl | rfl | rfl
  all_goals simp [Region.binds] at hp
  · obtain rfl : b0 = false := by revert hp; cases b0 <;> simp
    clear hp
    refine inv_op (o := ⟨some 41, _, _, _, _, _⟩) rfl (fun K' hK' => ?_)
    go_simp
    exact hK'.out _ _ ⟨.mk .., rfl, rfl, (Upd (fun _ => rfl)) HI.out⟩
  · obtain rfl : b1 = false := by revert hp; cases b1 <;> simp
    clear hp
    refine inv_op (o := ⟨some 42, _, _, _, _, _⟩) rfl (fun K' hK' => ?_)
    go_simp
    exact hK'.out _ _ ⟨.mk .., rfl, rfl, Nxt (Upd (fun _ => rfl)) HI.out⟩
  · obtain ⟨rfl, e1⟩ : b2 = false ∧ b1 = true := by revert hp; cases b2 <;> cases b1 <;> simp
    clear hp
    obtain rfl := (HI.out.2.1) e1
    refine inv_op (o := ⟨some 43, _, _, _, _, _⟩) rfl (fun K' hK' => ?_)
    go_simp
    exact hK'.out _ _ ⟨.mk .., rfl, rfl, Nxt (Nxt (Upd (fun _ => rfl))) HI.out⟩
  · obtain ⟨rfl, e2⟩ : b3 = false ∧ b2 = true := by revert hp; cases b3 <;> cases b2 <;> simp
    clear hp
    obtain rfl := (HI.out.2.2.1) e2
    refine inv_op (o := ⟨some 44, _, _, _, _, _⟩) rfl (fun K' hK' => ?_)
    go_simp
    exact hK'.out _ _ ⟨.mk .., rfl, rfl, Nxt (Nxt (Nxt (Upd (fun _ => rfl)))) HI.out⟩
  · obtain ⟨rfl, e3⟩ : b4 = false ∧ b3 = true := by revert hp; cases b4 <;> cases b3 <;> simp
    clear hp
    obtain rfl := (HI.out.2.2.2.1) e3
    refine inv_op (o := ⟨some 45, _, _, _, _, _⟩) rfl (fun K' hK' => ?_)
    have gi28 := HI.out.2.2.2.2.2.2.2.2.2.2.2.2.2.2.2.2.2.2.2.2.2.2.2.2.2.2.2.1
    have rW0 := HI.out.2.2.2.2.2.2.2.2.2.2.2.2.2.2.2.2.2.2.2.2.2.2.2.2.2.2.2.2.2.1
    have hbf28 : b28 = false := by cases b28 with | false => rfl | true => exact absurd ((gi28 rfl).1) (by decide)
    subst hbf28
    obtain ⟨hc6, _⟩ := at_cell (rW0 rfl) 6 _ rfl
    go_simp
    obtain ⟨h0, h1, h2, h3, h4, h5, h6, h7, h8, h9, h10, h11, h12, h13, h14, h15, h16, h17, h18, h19, h20, h21, h23, h25, h26, h27, gi23, gi28, gi24, rW0, rC0, gB, gP, gX, gF⟩ := HI.out
    exact hK'.out _ _ ⟨.mk .., rfl, rfl, h0, h1, h2, h3, (fun _ => rfl), h5, h6, h7, h8, h9, h10, h11, h12, h13, h14, h15, h16, h17, h18, h19, h20, h21, h23, h25, h26, h27, gi23, (fun e => by cases e), gi24, rW0, rC0, gB, gP, gX, (fun e => by cases e)⟩
  · obtain rfl : b5 = false := by revert hp; cases b5 <;> simp
    clear hp
    refine inv_op (o := ⟨some 46, _, _, _, _, _⟩) rfl (fun K' hK' => ?_)
    go_simp
    exact hK'.out _ _ ⟨.mk .., rfl, rfl, Nxt (Nx4 (Upd (fun _ => rfl))) HI.out⟩
  · obtain ⟨rfl, e5⟩ : b6 = false ∧ b5 = true := by revert hp; cases b6 <;> cases b5 <;> simp
    clear hp
    obtain rfl := (HI.out.2.2.2.2.2.1) e5
    refine inv_op (o := ⟨some 47, _, _, _, _, _⟩) rfl (fun K' hK' => ?_)
    go_simp
    exact hK'.out _ _ ⟨.mk .., rfl, rfl, Nxt (Nxt (Nx4 (Upd (fun _ => rfl)))) HI.out⟩
  · obtain ⟨rfl, e6⟩ : b7 = false ∧ b6 = true := by revert hp; cases b7 <;> cases b6 <;> simp
    clear hp
    obtain rfl := (HI.out.2.2.2.2.2.2.1) e6
    refine inv_op (o := ⟨some 48, _, _, _, _, _⟩) rfl (fun K' hK' => ?_)
    go_simp
    exact hK'.out _ _ ⟨.mk .., rfl, rfl, Nxt (Nxt (Nxt (Nx4 (Upd (fun _ => rfl))))) HI.out⟩
  · obtain ⟨rfl, e7⟩ : b8 = false ∧ b7 = true := by revert hp; cases b8 <;> cases b7 <;> simp
    clear hp
    obtain rfl := (HI.out.2.2.2.2.2.2.2.1) e7
    refine inv_op (o := ⟨some 49, _, _, _, _, _⟩) rfl (fun K' hK' => ?_)
    go_simp
    exact hK'.out _ _ ⟨.mk .., rfl, rfl, Nx4 (Nx4 (Upd (fun _ => rfl))) HI.out⟩
  · obtain ⟨rfl, e8⟩ : b9 = false ∧ b8 = true := by revert hp; cases b9 <;> cases b8 <;> simp
    clear hp
    obtain rfl := (HI.out.2.2.2.2.2.2.2.2.1) e8
    refine inv_op (o := ⟨some 50, _, _, _, _, _⟩) rfl (fun K' hK' => ?_)
    have gi28 := HI.out.2.2.2.2.2.2.2.2.2.2.2.2.2.2.2.2.2.2.2.2.2.2.2.2.2.2.2.1
    have rW0 := HI.out.2.2.2.2.2.2.2.2.2.2.2.2.2.2.2.2.2.2.2.2.2.2.2.2.2.2.2.2.2.1
    have hbf28 : b28 = false := by cases b28 with | false => rfl | true => exact absurd ((gi28 rfl).2.1) (by decide)
    subst hbf28
    obtain ⟨hc0, _⟩ := at_cell (rW0 rfl) 0 _ rfl
    go_simp
    obtain ⟨h0, h1, h2, h3, h4, h5, h6, h7, h8, h9, h10, h11, h12, h13, h14, h15, h16, h17, h18, h19, h20, h21, h23, h25, h26, h27, gi23, gi28, gi24, rW0, rC0, gB, gP, gX, gF⟩ := HI.out
    exact hK'.out _ _ ⟨.mk .., rfl, rfl, h0, h1, h2, h3, h4, h5, h6, h7, h8, (fun _ => rfl), h10, h11, h12, h13, h14, h15, h16, h17, h18, h19, h20, h21, h23, h25, h26, h27, gi23, (fun e => by cases e), gi24, rW0, rC0, gB, gP, gX, (fun e => by cases e)⟩
  · obtain rfl : b10 = false := by revert hp; cases b10 <;> simp
    clear hp
    refine inv_op (o := ⟨some 51, _, _, _, _, _⟩) rfl (fun K' hK' => ?_)
    go_simp
    exact hK'.out _ _ ⟨.mk .., rfl, rfl, Nxt (Nxt (Nx4 (Nx4 (Upd (fun _ => rfl))))) HI.out⟩
  · obtain ⟨rfl, e10⟩ : b11 = false ∧ b10 = true := by revert hp; cases b11 <;> cases b10 <;> simp
    clear hp
    obtain rfl := (HI.out.2.2.2.2.2.2.2.2.2.2.1) e10
    refine inv_op (o := ⟨some 52, _, _, _, _, _⟩) rfl (fun K' hK' => ?_)
    go_simp
    exact hK'.out _ _ ⟨.mk .., rfl, rfl, Nxt (Nxt (Nxt (Nx4 (Nx4 (Upd (fun _ => rfl)))))) HI.out⟩
  · obtain ⟨rfl, e11⟩ : b12 = false ∧ b11 = true := by revert hp; cases b12 <;> cases b11 <;> simp
    clear hp
    obtain rfl := (HI.out.2.2.2.2.2.2.2.2.2.2.2.1) e11
    refine inv_op (o := ⟨some 53, _, _, _, _, _⟩) rfl (fun K' hK' => ?_)
    go_simp
    exact hK'.out _ _ ⟨.mk .., rfl, rfl, Nx4 (Nx4 (Nx4 (Upd (fun _ => rfl)))) HI.out⟩
  · obtain ⟨rfl, e12⟩ : b13 = false ∧ b12 = true := by revert hp; cases b13 <;> cases b12 <;> simp
    clear hp
    obtain rfl := (HI.out.2.2.2.2.2.2.2.2.2.2.2.2.1) e12
    refine inv_op (o := ⟨some 54, _, _, _, _, _⟩) rfl (fun K' hK' => ?_)
    go_simp
    exact hK'.out _ _ ⟨.mk .., rfl, rfl, Nxt (Nx4 (Nx4 (Nx4 (Upd (fun _ => rfl))))) HI.out⟩
  · obtain ⟨rfl, e13⟩ : b14 = false ∧ b13 = true := by revert hp; cases b14 <;> cases b13 <;> simp
    clear hp
    obtain rfl := (HI.out.2.2.2.2.2.2.2.2.2.2.2.2.2.1) e13
    refine inv_op (o := ⟨some 55, _, _, _, _, _⟩) rfl (fun K' hK' => ?_)
    have gi28 := HI.out.2.2.2.2.2.2.2.2.2.2.2.2.2.2.2.2.2.2.2.2.2.2.2.2.2.2.2.1
    have rW0 := HI.out.2.2.2.2.2.2.2.2.2.2.2.2.2.2.2.2.2.2.2.2.2.2.2.2.2.2.2.2.2.1
    have hbf28 : b28 = false := by cases b28 with | false => rfl | true => exact absurd ((gi28 rfl).2.2.1) (by decide)
    subst hbf28
    obtain ⟨hc1, _⟩ := at_cell (rW0 rfl) 1 _ rfl
    go_simp
    obtain ⟨h0, h1, h2, h3, h4, h5, h6, h7, h8, h9, h10, h11, h12, h13, h14, h15, h16, h17, h18, h19, h20, h21, h23, h25, h26, h27, gi23, gi28, gi24, rW0, rC0, gB, gP, gX, gF⟩ := HI.out
    exact hK'.out _ _ ⟨.mk .., rfl, rfl, h0, h1, h2, h3, h4, h5, h6, h7, h8, h9, h10, h11, h12, h13, (fun _ => rfl), h15, h16, h17, h18, h19, h20, h21, h23, h25, h26, h27, gi23, (fun e => by cases e), gi24, rW0, rC0, gB, gP, gX, (fun e => by cases e)⟩
  · obtain rfl : b15 = false := by revert hp; cases b15 <;> simp
    clear hp
    refine inv_op (o := ⟨some 56, _, _, _, _, _⟩) rfl (fun K' hK' => ?_)
    go_simp
    exact hK'.out _ _ ⟨.mk .., rfl, rfl, Nxt (Nxt (Nxt (Nx4 (Nx4 (Nx4 (Upd (fun _ => rfl))))))) HI.out⟩
  · obtain ⟨rfl, e15⟩ : b16 = false ∧ b15 = true := by revert hp; cases b16 <;> cases b15 <;> simp
    clear hp
    obtain rfl := (HI.out.2.2.2.2.2.2.2.2.2.2.2.2.2.2.2.1) e15
    refine inv_op (o := ⟨some 57, _, _, _, _, _⟩) rfl (fun K' hK' => ?_)
    go_simp
    exact hK'.out _ _ ⟨.mk .., rfl, rfl, Nx16 (Upd (fun _ => rfl)) HI.out⟩
  · obtain ⟨rfl, e16⟩ : b17 = false ∧ b16 = true := by revert hp; cases b17 <;> cases b16 <;> simp
    clear hp
    obtain rfl := (HI.out.2.2.2.2.2.2.2.2.2.2.2.2.2.2.2.2.1) e16
    refine inv_op (o := ⟨some 58, _, _, _, _, _⟩) rfl (fun K' hK' => ?_)
    go_simp
    exact hK'.out _ _ ⟨.mk .., rfl, rfl, Nxt (Nx16 (Upd (fun _ => rfl))) HI.out⟩
  · obtain ⟨rfl, e17⟩ : b18 = false ∧ b17 = true := by revert hp; cases b18 <;> cases b17 <;> simp
    clear hp
    obtain rfl := (HI.out.2.2.2.2.2.2.2.2.2.2.2.2.2.2.2.2.2.1) e17
    refine inv_op (o := ⟨some 59, _, _, _, _, _⟩) rfl (fun K' hK' => ?_)
    go_simp
    exact hK'.out _ _ ⟨.mk .., rfl, rfl, Nxt (Nxt (Nx16 (Upd (fun _ => rfl)))) HI.out⟩
  · obtain ⟨rfl, e18⟩ : b19 = false ∧ b18 = true := by revert hp; cases b19 <;> cases b18 <;> simp
    clear hp
    obtain rfl := (HI.out.2.2.2.2.2.2.2.2.2.2.2.2.2.2.2.2.2.2.1) e18
    refine inv_op (o := ⟨some 60, _, _, _, _, _⟩) rfl (fun K' hK' => ?_)
    have gi28 := HI.out.2.2.2.2.2.2.2.2.2.2.2.2.2.2.2.2.2.2.2.2.2.2.2.2.2.2.2.1
    have rW0 := HI.out.2.2.2.2.2.2.2.2.2.2.2.2.2.2.2.2.2.2.2.2.2.2.2.2.2.2.2.2.2.1
    have hbf28 : b28 = false := by cases b28 with | false => rfl | true => exact absurd ((gi28 rfl).2.2.2.1) (by decide)
    subst hbf28
    obtain ⟨hc3, _⟩ := at_cell (rW0 rfl) 3 _ rfl
    go_simp
    obtain ⟨h0, h1, h2, h3, h4, h5, h6, h7, h8, h9, h10, h11, h12, h13, h14, h15, h16, h17, h18, h19, h20, h21, h23, h25, h26, h27, gi23, gi28, gi24, rW0, rC0, gB, gP, gX, gF⟩ := HI.out
    exact hK'.out _ _ ⟨.mk .., rfl, rfl, h0, h1, h2, h3, h4, h5, h6, h7, h8, h9, h10, h11, h12, h13, h14, h15, h16, h17, h18, (fun _ => rfl), h20, h21, h23, h25, h26, h27, gi23, (fun e => by cases e), gi24, rW0, rC0, gB, gP, gX, (fun e => by cases e)⟩
  · obtain rfl : b20 = false := by revert hp; cases b20 <;> simp
    clear hp
    refine inv_op (o := ⟨some 61, _, _, _, _, _⟩) rfl (fun K' hK' => ?_)
    go_simp
    exact hK'.out _ _ ⟨.mk .., rfl, rfl, Nx4 (Nx16 (Upd (fun _ => rfl))) HI.out⟩
  · obtain ⟨rfl, e20⟩ : b21 = false ∧ b20 = true := by revert hp; cases b21 <;> cases b20 <;> simp
    clear hp
    obtain rfl := (HI.out.2.2.2.2.2.2.2.2.2.2.2.2.2.2.2.2.2.2.2.2.1) e20
    refine inv_op (o := ⟨some 62, _, _, _, _, _⟩) rfl (fun K' hK' => ?_)
    have gi28 := HI.out.2.2.2.2.2.2.2.2.2.2.2.2.2.2.2.2.2.2.2.2.2.2.2.2.2.2.2.1
    have rC0 := HI.out.2.2.2.2.2.2.2.2.2.2.2.2.2.2.2.2.2.2.2.2.2.2.2.2.2.2.2.2.2.2.1
    have hbf28 : b28 = false := by cases b28 with | false => rfl | true => exact absurd ((gi28 rfl).2.2.2.2.1) (by decide)
    subst hbf28
    obtain ⟨hc0, _⟩ := at_cell (rC0 rfl) 0 _ rfl
    go_simp
    obtain ⟨h0, h1, h2, h3, h4, h5, h6, h7, h8, h9, h10, h11, h12, h13, h14, h15, h16, h17, h18, h19, h20, h21, h23, h25, h26, h27, gi23, gi28, gi24, rW0, rC0, gB, gP, gX, gF⟩ := HI.out
    exact hK'.out _ _ ⟨.mk .., rfl, rfl, h0, h1, h2, h3, h4, h5, h6, h7, h8, h9, h10, h11, h12, h13, h14, h15, h16, h17, h18, h19, h20, (fun _ => rfl), h23, h25, h26, h27, gi23, (fun e => by cases e), gi24, rW0, rC0, gB, gP, gX, (fun e => by cases e)⟩
  · have hn22 : b22 = false := by revert hp; cases b22 <;> simp
    have e4 : b4 = true := by revert hp; cases b4 <;> simp
    have e9 : b9 = true := by revert hp; cases b9 <;> simp
    have e14 : b14 = true := by revert hp; cases b14 <;> simp
    have e19 : b19 = true := by revert hp; cases b19 <;> simp
    have e21 : b21 = true := by revert hp; cases b21 <;> simp
    clear hp
    obtain rfl := (HI.out.2.2.2.2.1) e4
    obtain rfl := (HI.out.2.2.2.2.2.2.2.2.2.1) e9
    obtain rfl := (HI.out.2.2.2.2.2.2.2.2.2.2.2.2.2.2.1) e14
    obtain rfl := (HI.out.2.2.2.2.2.2.2.2.2.2.2.2.2.2.2.2.2.2.2.1) e19
    obtain rfl := (HI.out.2.2.2.2.2.2.2.2.2.2.2.2.2.2.2.2.2.2.2.2.2.1) e21
    subst hn22
    refine inv_op (o := ⟨some 63, _, _, _, _, _⟩) rfl (fun K' hK' => ?_)
    have gi23 := HI.out.2.2.2.2.2.2.2.2.2.2.2.2.2.2.2.2.2.2.2.2.2.2.2.2.2.2.1
    have gi28 := HI.out.2.2.2.2.2.2.2.2.2.2.2.2.2.2.2.2.2.2.2.2.2.2.2.2.2.2.2.1
    have gi24 := HI.out.2.2.2.2.2.2.2.2.2.2.2.2.2.2.2.2.2.2.2.2.2.2.2.2.2.2.2.2.1
    have gB := HI.out.2.2.2.2.2.2.2.2.2.2.2.2.2.2.2.2.2.2.2.2.2.2.2.2.2.2.2.2.2.2.2.1
    have hbf23 : b23 = false := by cases b23 with | false => rfl | true => exact absurd ((gi23 rfl)) (by decide)
    subst hbf23
    have hbf28 : b28 = false := by cases b28 with | false => rfl | true => exact absurd ((gi28 rfl).2.2.2.2.2) (by decide)
    subst hbf28
    have hbf24 : b24 = false := by cases b24 with | false => rfl | true => exact absurd ((gi24 rfl)) (by decide)
    subst hbf24
    go_simp
    refine (HOF.out W (gB rfl)).mono ?_
    rintro e w2 ⟨ra, rc, rfl, hr, bn⟩
    obtain ⟨h0, h1, h2, h3, h4, h5, h6, h7, h8, h9, h10, h11, h12, h13, h14, h15, h16, h17, h18, h19, h20, h21, h23, h25, h26, h27, gi23, gi28, gi24, rW0, rC0, gB, gP, gX, gF⟩ := HI.out
    exact hK'.out _ _ ⟨.mk .., rfl, rfl, h0, h1, h2, h3, h4, h5, h6, h7, h8, h9, h10, h11, h12, h13, h14, h15, h16, h17, h18, h19, h20, h21, (fun e => by cases ((gi23 e))), h25, h26, h27, (fun e => by cases e), (fun e => by cases e), (fun e => by cases e), (fun e => row_keep (rW0 e) bn), (fun e => row_keep (rC0 e) bn), (fun e => (gB e).trans (bn.mono (gB e).size)), (fun _ => ⟨ra, rc, rfl, hr⟩), (fun e => by cases e), (fun e => by cases e)⟩
  · obtain ⟨rfl, e22⟩ : b23 = false ∧ b22 = true := by revert hp; cases b23 <;> cases b22 <;> simp
    clear hp
    refine inv_op (o := ⟨some 40, _, _, _, _, _⟩) rfl (fun K' hK' => ?_)
    go_simp
    exact hK'.out _ _ ⟨.mk .., rfl, rfl, Nxt (Nxt (Nx4 (Nx4 (Nx16 (Upd (fun _ => e22)))))) (Nxt (Nxt (Nx4 (Nx16 (Upd (fun _ => rfl))))) HI.out)⟩
  · obtain ⟨rfl, e23⟩ : b24 = false ∧ b23 = true := by revert hp; cases b24 <;> cases b23 <;> simp
    clear hp
    obtain rfl := (HI.out.2.2.2.2.2.2.2.2.2.2.2.2.2.2.2.2.2.2.2.2.2.2.1) e23
    refine inv_op (o := ⟨some 64, _, _, _, _, _⟩) rfl (fun K' hK' => ?_)
    have gi23 := HI.out.2.2.2.2.2.2.2.2.2.2.2.2.2.2.2.2.2.2.2.2.2.2.2.2.2.2.1
    have gP := HI.out.2.2.2.2.2.2.2.2.2.2.2.2.2.2.2.2.2.2.2.2.2.2.2.2.2.2.2.2.2.2.2.2.1
    obtain ⟨ra, rc, rfl, hp⟩ := gP ((gi23 e23))
    go_simp
    obtain ⟨h0, h1, h2, h3, h4, h5, h6, h7, h8, h9, h10, h11, h12, h13, h14, h15, h16, h17, h18, h19, h20, h21, h23, h25, h26, h27, gi23, gi28, gi24, rW0, rC0, gB, gP, gX, gF⟩ := HI.out
    exact hK'.out _ _ ⟨.mk .., rfl, rfl, h0, h1, h2, h3, h4, h5, h6, h7, h8, h9, h10, h11, h12, h13, h14, h15, h16, h17, h18, h19, h20, h21, h23, h25, h26, h27, gi23, gi28, (fun _ => (gi23 e23)), rW0, rC0, gB, (fun _ => ⟨ra, rc, rfl, hp⟩), (fun _ => ⟨ra, rc, rfl, hp⟩), gF⟩
  · obtain ⟨rfl, e23⟩ : b25 = false ∧ b23 = true := by revert hp; cases b25 <;> cases b23 <;> simp
    clear hp
    obtain rfl := (HI.out.2.2.2.2.2.2.2.2.2.2.2.2.2.2.2.2.2.2.2.2.2.2.1) e23
    refine inv_op (o := ⟨some 65, _, _, _, _, _⟩) rfl (fun K' hK' => ?_)
    have gi23 := HI.out.2.2.2.2.2.2.2.2.2.2.2.2.2.2.2.2.2.2.2.2.2.2.2.2.2.2.1
    have gP := HI.out.2.2.2.2.2.2.2.2.2.2.2.2.2.2.2.2.2.2.2.2.2.2.2.2.2.2.2.2.2.2.2.2.1
    obtain ⟨ra, rc, rfl, hp⟩ := gP ((gi23 e23))
    go_simp
    exact hK'.out _ _ ⟨.mk .., rfl, rfl, Nx16 (Nx16 (Upd (fun _ => ⟨ra, rc, rfl, hp⟩))) (Nxt (Nxt (Nxt (Nx4 (Nx16 (Upd (fun _ => rfl)))))) HI.out)⟩
  · obtain ⟨rfl, e0⟩ : b26 = false ∧ b0 = true := by revert hp; cases b26 <;> cases b0 <;> simp
    clear hp
    obtain rfl := (HI.out.1) e0
    refine inv_op (o := ⟨some 66, _, _, _, _, _⟩) rfl (fun K' hK' => ?_)
    go_simp
    exact hK'.out _ _ ⟨.mk .., rfl, rfl, Nx4 (Nx4 (Nx16 (Upd (fun _ => rfl)))) HI.out⟩
  · obtain ⟨rfl, e26⟩ : b27 = false ∧ b26 = true := by revert hp; cases b27 <;> cases b26 <;> simp
    clear hp
    obtain rfl := (HI.out.2.2.2.2.2.2.2.2.2.2.2.2.2.2.2.2.2.2.2.2.2.2.2.2.1) e26
    refine inv_op (o := ⟨some 67, _, _, _, _, _⟩) rfl (fun K' hK' => ?_)
    go_simp
    exact hK'.out _ _ ⟨.mk .., rfl, rfl, Nxt (Nx4 (Nx4 (Nx16 (Upd (fun _ => rfl))))) HI.out⟩
  · have hn28 : b28 = false := by revert hp; cases b28 <;> simp
    have e24 : b24 = true := by revert hp; cases b24 <;> simp
    have e27 : b27 = true := by revert hp; cases b27 <;> simp
    have e22 : b22 = true := by revert hp; cases b22 <;> simp
    have e4 : b4 = true := by revert hp; cases b4 <;> simp
    have e9 : b9 = true := by revert hp; cases b9 <;> simp
    have e14 : b14 = true := by revert hp; cases b14 <;> simp
    have e19 : b19 = true := by revert hp; cases b19 <;> simp
    have e21 : b21 = true := by revert hp; cases b21 <;> simp
    clear hp
    obtain rfl := (HI.out.2.2.2.2.2.2.2.2.2.2.2.2.2.2.2.2.2.2.2.2.2.2.2.2.2.1) e27
    subst hn28
    refine inv_op (o := ⟨none, _, _, _, _, _⟩) rfl (fun K' hK' => ?_)
    have rW0 := HI.out.2.2.2.2.2.2.2.2.2.2.2.2.2.2.2.2.2.2.2.2.2.2.2.2.2.2.2.2.2.1
    have gB := HI.out.2.2.2.2.2.2.2.2.2.2.2.2.2.2.2.2.2.2.2.2.2.2.2.2.2.2.2.2.2.2.2.1
    have gX := HI.out.2.2.2.2.2.2.2.2.2.2.2.2.2.2.2.2.2.2.2.2.2.2.2.2.2.2.2.2.2.2.2.2.2.1
    obtain ⟨ra, rc, rfl, hx⟩ := gX e24
    have hrow := rW0 rfl
    have hgb := gB rfl
    obtain ⟨hc, hz⟩ := at_cell hrow 6 _ rfl
    have hlx := (Array.getElem?_eq_some_iff.1 hrow).1
    go_simp
    obtain ⟨h0, h1, h2, h3, h4, h5, h6, h7, h8, h9, h10, h11, h12, h13, h14, h15, h16, h17, h18, h19, h20, h21, h23, h25, h26, h27, gi23, gi28, gi24, rW0, rC0, gB, gP, gX, gF⟩ := HI.out
    exact hK'.out _ _ ⟨.mk .., rfl, rfl, h0, h1, h2, h3, h4, h5, h6, h7, h8, h9, h10, h11, h12, h13, h14, h15, h16, h17, h18, h19, h20, h21, h23, h25, h26, h27, gi23, (fun _ => ⟨e4, e9, e14, e19, e21, e22⟩), gi24, (fun e => by cases e), (fun e => by cases e), (fun e => by cases e), (fun e => by obtain ⟨y0, y1, h1, h2⟩ := gP e; exact ⟨y0, y1, h1, h2.stay hrow (by decide) 6 _⟩), (fun _ => ⟨ra, rc, rfl, hx.stay hrow (by decide) 6 _⟩), (fun _ => ⟨ra, rc, W, rfl, hgb, hx⟩)⟩
 case hdone =>
  rintro ⟨b0, b1, b2, b3, b4, b5, b6, b7, b8, b9, b10, b11, b12, b13, b14, b15, b16, b17, b18, b19, b20, b21, b22, b23, b24, b25, b26, b27, b28, s41, s42, s43, s44, s45, s46, s47, s48, s49, s50, s51, s52, s53, s54, s55, s56, s57, s58, s59, s60, s61, s62, s63, s40, s64, s65, s66, s67⟩ W hI hall
  dsimp only at hI hall ⊢
  have HI := Lib.hid hI
  clear hI
  obtain rfl : b0 = true := hall 0 (by decide)
  obtain rfl : b1 = true := hall 1 (by decide)
  obtain rfl : b2 = true := hall 2 (by decide)
  obtain rfl : b3 = true := hall 3 (by decide)
  obtain rfl : b4 = true := hall 4 (by decide)
  obtain rfl : b5 = true := hall 5 (by decide)
  obtain rfl : b6 = true := hall 6 (by decide)
  obtain rfl : b7 = true := hall 7 (by decide)
  obtain rfl : b8 = true := hall 8 (by decide)
  obtain rfl : b9 = true := hall 9 (by decide)
  obtain rfl : b10 = true := hall 10 (by decide)
  obtain rfl : b11 = true := hall 11 (by decide)
  obtain rfl : b12 = true := hall 12 (by decide)
  obtain rfl : b13 = true := hall 13 (by decide)
  obtain rfl : b14 = true := hall 14 (by decide)
  obtain rfl : b15 = true := hall 15 (by decide)
  obtain rfl : b16 = true := hall 16 (by decide)
  obtain rfl : b17 = true := hall 17 (by decide)
  obtain rfl : b18 = true := hall 18 (by decide)
  obtain rfl : b19 = true := hall 19 (by decide)
  obtain rfl : b20 = true := hall 20 (by decide)
  obtain rfl : b21 = true := hall 21 (by decide)
  obtain rfl : b22 = true := hall 22 (by decide)
  obtain rfl : b23 = true := hall 23 (by decide)
  obtain rfl : b24 = true := hall 24 (by decide)
  obtain rfl : b25 = true := hall 25 (by decide)
  obtain rfl : b26 = true := hall 26 (by decide)
  obtain rfl : b27 = true := hall 27 (by decide)
  obtain rfl : b28 = true := hall 28 (by decide)
  have gF := HI.out.2.2.2.2.2.2.2.2.2.2.2.2.2.2.2.2.2.2.2.2.2.2.2.2.2.2.2.2.2.2.2.2.2.2
  clear HI hall
  obtain ⟨ra, rc, w6, rfl, hb6, ho6⟩ := gF rfl
  have hwr := row_keep HW5.out.row hb6
  have HW7 := Lib.hid ((HW5.out.below hb6).setM ho6)
  have HX7 := Lib.hid (one_other (row_keep HX5.out hb6) ⟨g, 6, none⟩ (.slice ra L rc) (blocks_ne (row_keep HX5.out hb6) hwr (fun e => tChW e.symm)))
  have HA7 := Lib.hid (one_other (row_keep HA5.out hb6) ⟨g, 6, none⟩ (.slice ra L rc) (blocks_ne (row_keep HA5.out hb6) hwr (by decide)))
  have HQ7 := Lib.hid (one_other (row_keep HQ5.out hb6) ⟨g, 6, none⟩ (.slice ra L rc) (blocks_ne (row_keep HQ5.out hb6) hwr (by decide)))
  have HB7 := Lib.hid ((HB5.out.trans (hb6.mono HB5.out.size)).setCell (p := ⟨g, 6, none⟩) (by have h1 := HW5.out.lo; rw [HBQ.out] at h1; show w.heap.size ≤ g; omega) (.slice ra L rc))
  obtain ⟨w7, hw7⟩ : ∃ x, x = w6.setCell ⟨g, 6, none⟩ (.slice ra L rc) := ⟨_, rfl⟩
  rw [← hw7] at HW7 HX7 HA7 HQ7 HB7 ⊢
  clear gF hb6 ho6 hwr hw7 HW5 HX5 HA5 HQ5 HB5 HOF
  obtain ⟨⟨l0, l1, l2, l3', l4, l5, l6⟩, z0, z1, z2, z3, z4, z5, z6⟩ := cells_seven HW7.out.row
  have hlg := (Array.getElem?_eq_some_iff.1 HW7.out.row).1
  have HX8 := Lib.hid (one_other HX7.out ⟨g, 3, none⟩ (.int .u16 (a1 : Nat)) (blocks_ne HX7.out HW7.out.row (fun e => tChW e.symm)))
  have HA8 := Lib.hid (one_other HA7.out ⟨g, 3, none⟩ (.int .u16 (a1 : Nat)) (blocks_ne HA7.out HW7.out.row (by decide)))
  have HQ8 := Lib.hid (one_other HQ7.out ⟨g, 3, none⟩ (.int .u16 (a1 : Nat)) (blocks_ne HQ7.out HW7.out.row (by decide)))
  have HB8 := Lib.hid (HB7.out.setCell (p := ⟨g, 3, none⟩) (by have h1 := HW7.out.lo; rw [HBQ.out] at h1; show w.heap.size ≤ g; omega) (.int .u16 (a1 : Nat)))
  have HW8 := Lib.hid (HW7.out.setA a1)
  go_wp2_with fail
  obtain ⟨w8, hw8⟩ : ∃ x, x = w7.setCell ⟨g, 3, none⟩ (.int .u16 (a1 : Nat)) := ⟨_, rfl⟩
  rw [← hw8] at HW8 HX8 HA8 HQ8 HB8 ⊢
  clear hw8 l0 l1 l2 l3' l4 l5 l6 z0 z1 z2 z3 z4 z5 z6 hlg HW7 HX7 HA7 HQ7 HB7 hw16
  refine wp_region_rec (X := QueAddB) (by kernel_rfl) (by kernel_rfl) (fun x => #[x.b0, x.b1, x.b2, x.b3, x.b4, x.b5, x.b6, x.b7, x.b8, x.b9, x.b10, x.b11, x.b12, x.b13]) (fun x => { tmps := List.toArray ((.agg #[.slice va L vc]) :: (.agg #[.int .i64 (bq : Nat), .int .i64 (N : Nat), .slice fa fn fc, .int .u16 (av : Nat), .int .u16 (la : Nat), .slice ca cn cc]) :: (.slice ba n bc) :: (.pointer (some ⟨w.heap.size, 0, none⟩)) :: (.pointer (some ⟨w.heap.size + 1, 0, none⟩)) :: undef :: (.pointer (some ⟨w.heap.size + 1 + 1, 0, none⟩)) :: (.pointer (some ⟨w.heap.size + 1 + 1 + 1, 0, none⟩)) :: x.s8 :: x.s9 :: (.pointer (some ⟨g, 0, none⟩)) :: (.int .i64 0) :: (.pointer (some ⟨w3.heap.size, 0, none⟩)) :: (.tuple #[.pointer (some ⟨g, 0, none⟩), .int .i64 0]) :: (.agg #[.slice va L vc]) :: (.agg #[.int .i64 (bq : Nat), .int .i64 (N : Nat), .slice fa fn fc, .int .u16 (av : Nat), .int .u16 (la : Nat), .slice ca cn cc]) :: (.tuple #[.pointer (some ⟨g, 0, none⟩), .int .i64 0]) :: (.pointer (some ⟨g, 0, none⟩)) :: (.int .i64 0) :: (.int .i64 0) :: (.bool true) :: (.pointer (some ⟨g, 0, none⟩)) :: (.slice ba n bc) :: (.int .i64 0) :: (.int .i64 0) :: (.bool false) :: undef :: undef :: undef :: undef :: undef :: undef :: undef :: (.pointer (some ⟨g, 0, none⟩)) :: (.slice ba n bc) :: (.agg #[.int .i64 (hd : Nat), .slice da n dc, .int .i64 rm]) :: (.pointer (some ⟨g, 0, none⟩)) :: (.agg #[.int .i64 (hd : Nat), .slice da n dc, .int .i64 rm]) :: (.slice ba n bc) :: (.tuple #[]) :: s40 :: s41 :: s42 :: s43 :: s44 :: s45 :: s46 :: s47 :: s48 :: s49 :: s50 :: s51 :: s52 :: s53 :: s54 :: s55 :: s56 :: s57 :: s58 :: s59 :: s60 :: s61 :: s62 :: s63 :: s64 :: s65 :: s66 :: s67 :: (.pointer (some ⟨g, 0, none⟩)) :: (.pointer (some ⟨g, 0, none⟩)) :: (.pointer (some ⟨g, 0, none⟩)) :: (.pointer (some ⟨g, 3, none⟩)) :: (.int .u16 (av : Nat)) :: (.int .u16 (a1 : Nat)) :: (.pointer (some ⟨g, 0, none⟩)) :: (.pointer (some ⟨g, 0, none⟩)) :: (.pointer (some ⟨g, 3, none⟩)) :: x.s77 :: x.s78 :: x.s79 :: x.s80 :: x.s81 :: x.s82 :: x.s83 :: x.s84 :: x.s85 :: x.s86 :: []), defers := [] }) (fun x W => (x.b0 = true → x.s77 = .pointer (some ⟨g, 0, none⟩)) ∧ (x.b1 = true → x.s78 = .pointer (some ⟨g, 0, none⟩)) ∧ (x.b2 = true → x.s79 = .pointer (some ⟨g, 6, none⟩)) ∧ (x.b3 = true → x.s80 = .agg #[.slice ra L rc]) ∧ (x.b4 = true → x.s81 = .pointer (some ⟨g, 0, none⟩)) ∧ (x.b5 = true → x.s82 = .pointer (some ⟨g, 0, none⟩)) ∧ (x.b6 = true → x.s83 = .pointer (some ⟨g, 0, none⟩)) ∧ (x.b7 = true → x.s84 = .agg #[.int .i64 (bq : Nat), .int .i64 (N : Nat), .slice f2 n2 k2, .int .u16 (a1 : Nat), .int .u16 (la : Nat), .slice c2 m2 j2]) ∧ (x.b8 = true → x.s85 = .pointer (some ⟨w3.heap.size, 0, none⟩)) ∧ (x.b9 = true → x.s86 = .int .i64 (hd : Nat)) ∧ (x.b12 = true → x.s8 = .int .i64 (hd : Nat)) ∧ (x.b13 = true → x.s9 = .int .i64 0) ∧ (x.b11 = true → x.b10 = true) ∧ (W.heap[g]? = some (.cells #[.int .i64 (bq : Nat), .int .i64 (N : Nat), .slice f2 n2 k2, .int .u16 (a1 : Nat), .int .u16 (la : Nat), .slice c2 m2 j2, .slice ra L rc] 74 (0, 0))) ∧ (W.heap[w3.heap.size]? = some (.cells #[.int .i64 (hd : Nat), .slice da n dc, .int .i64 rm] 76 (0, 0))) ∧ (x.b10 = false → W.heap[w.heap.size + 1 + 1]? = some (.cells #[.slice none 0 0] 26 (0, 0))) ∧ (x.b10 = true → W.heap[w.heap.size + 1 + 1]? = some (.cells #[.slice ra L rc] 26 (0, 0))) ∧ (x.b11 = false → W.heap[w.heap.size + 1 + 1 + 1]? = some (.cells #[.int .i64 0, .int .i64 0, .slice none 0 0, .int .u16 0, .int .u16 0, .slice none 0 0] 30 (0, 0))) ∧ (x.b11 = true → W.heap[w.heap.size + 1 + 1 + 1]? = some (.cells #[.int .i64 (bq : Nat), .int .i64 (N : Nat), .slice f2 n2 k2, .int .u16 (a1 : Nat), .int .u16 (la : Nat), .slice c2 m2 j2] 30 (0, 0))) ∧ (Below w.heap.size w W) ∧ (WorkB B W g ⟨(bq : Nat), (N : Nat), fr8, a1, la, ch8⟩ (.slice f2 n2 k2) (.slice c2 m2 j2) (.slice ra L rc) E8 l3)) ⟨false, false, false, false, false, false, false, false, false, false, false, false, false, false, undef, undef, undef, undef, undef, undef, undef, undef, undef, undef, .int .i64 0, .int .i64 0⟩ rfl rfl ⟨(fun h => by cases h), (fun h => by cases h), (fun h => by cases h), (fun h => by cases h), (fun h => by cases h), (fun h => by cases h), (fun h => by cases h), (fun h => by cases h), (fun h => by cases h), (fun h => by cases h), (fun h => by cases h), (fun h => by cases h), (fun h => by cases h), HW8.out.row, HX8.out, (fun _ => HA8.out), (fun h => by cases h), (fun _ => HQ8.out), (fun h => by cases h), HB8.out.drew, HW8.out.drew⟩ (fun _ => rfl) ?hstep ?hdone
  case hstep =>
   rintro ⟨b0, b1, b2, b3, b4, b5, b6, b7, b8, b9, b10, b11, b12, b13, s77, s78, s79, s80, s81, s82, s83, s84, s85, s86, s8, s9⟩ W hI i hi
   dsimp only at hI hi ⊢
   have HI := Lib.hid hI
   clear hI
   rw [Region.ready, List.mem_filter, List.mem_range] at hi
   obtain ⟨hlt, hp⟩ := hi
   have hi7 : i = 0 ∨ i = 1 ∨ i = 2 ∨ i = 3 ∨ i = 4 ∨ i = 5 ∨ i = 6 ∨ i = 7 ∨ i = 8 ∨ i = 9 ∨ i = 10 ∨ i = 11 ∨ i = 12 ∨ i = 13 := by simp at hlt; omega
   clear hlt
   rcases hi7 with rfl | rfl | rfl | rfl | rfl | rfl | rfl | rfl | rfl | rfl | rfl | rfl | rfl | rfl
   all_goals simp [Region.binds] at hp
   · obtain rfl : b0 = false := by revert hp; cases b0 <;> simp
     clear hp
     refine inv_op (o := ⟨some 77, _, _, _, _, _⟩) rfl (fun K' hK' => ?_)
     go_simp
     exact hK'.out _ _ ⟨.mk .., rfl, rfl, (Upd (fun _ => rfl)) HI.out⟩
   · obtain ⟨rfl, e0⟩ : b1 = false ∧ b0 = true := by revert hp; cases b1 <;> cases b0 <;> simp
     clear hp
     obtain rfl := (HI.out.1) e0
     refine inv_op (o := ⟨some 78, _, _, _, _, _⟩) rfl (fun K' hK' => ?_)
     go_simp
     exact hK'.out _ _ ⟨.mk .., rfl, rfl, Nxt (Upd (fun _ => rfl)) HI.out⟩
   · obtain ⟨rfl, e1⟩ : b2 = false ∧ b1 = true := by revert hp; cases b2 <;> cases b1 <;> simp
     clear hp
     obtain rfl := (HI.out.2.1) e1
     refine inv_op (o := ⟨some 79, _, _, _, _, _⟩) rfl (fun K' hK' => ?_)
     go_simp
     exact hK'.out _ _ ⟨.mk .., rfl, rfl, Nxt (Nxt (Upd (fun _ => rfl))) HI.out⟩
   · obtain ⟨rfl, e2⟩ : b3 = false ∧ b2 = true := by revert hp; cases b3 <;> cases b2 <;> simp
     clear hp
     obtain rfl := (HI.out.2.2.1) e2
     refine inv_op (o := ⟨some 80, _, _, _, _, _⟩) rfl (fun K' hK' => ?_)
     have rW := HI.out.2.2.2.2.2.2.2.2.2.2.2.2.2.1
     obtain ⟨hc6, _⟩ := at_cell rW 6 _ rfl
     go_simp
     exact hK'.out _ _ ⟨.mk .., rfl, rfl, Nxt (Nxt (Nxt (Upd (fun _ => rfl)))) HI.out⟩
   · obtain rfl : b4 = false := by revert hp; cases b4 <;> simp
     clear hp
     refine inv_op (o := ⟨some 81, _, _, _, _, _⟩) rfl (fun K' hK' => ?_)
     go_simp
     exact hK'.out _ _ ⟨.mk .., rfl, rfl, Nx4 (Upd (fun _ => rfl)) HI.out⟩
   · obtain ⟨rfl, e4⟩ : b5 = false ∧ b4 = true := by revert hp; cases b5 <;> cases b4 <;> simp
     clear hp
     obtain rfl := (HI.out.2.2.2.2.1) e4
     refine inv_op (o := ⟨some 82, _, _, _, _, _⟩) rfl (fun K' hK' => ?_)
     go_simp
     exact hK'.out _ _ ⟨.mk .., rfl, rfl, Nxt (Nx4 (Upd (fun _ => rfl))) HI.out⟩
   · obtain ⟨rfl, e5⟩ : b6 = false ∧ b5 = true := by revert hp; cases b6 <;> cases b5 <;> simp
     clear hp
     obtain rfl := (HI.out.2.2.2.2.2.1) e5
     refine inv_op (o := ⟨some 83, _, _, _, _, _⟩) rfl (fun K' hK' => ?_)
     go_simp
     exact hK'.out _ _ ⟨.mk .., rfl, rfl, Nxt (Nxt (Nx4 (Upd (fun _ => rfl)))) HI.out⟩
   · obtain ⟨rfl, e6⟩ : b7 = false ∧ b6 = true := by revert hp; cases b7 <;> cases b6 <;> simp
     clear hp
     obtain rfl := (HI.out.2.2.2.2.2.2.1) e6
     refine inv_op (o := ⟨some 84, _, _, _, _, _⟩) rfl (fun K' hK' => ?_)
     have rW := HI.out.2.2.2.2.2.2.2.2.2.2.2.2.2.1
     obtain ⟨hc0, _⟩ := at_cell rW 0 _ rfl
     obtain ⟨hc1, _⟩ := at_cell rW 1 _ rfl
     obtain ⟨hc2, _⟩ := at_cell rW 2 _ rfl
     obtain ⟨hc3, _⟩ := at_cell rW 3 _ rfl
     obtain ⟨hc4, _⟩ := at_cell rW 4 _ rfl
     obtain ⟨hc5, _⟩ := at_cell rW 5 _ rfl
     go_simp
     exact hK'.out _ _ ⟨.mk .., rfl, rfl, Nxt (Nxt (Nxt (Nx4 (Upd (fun _ => rfl))))) HI.out⟩
   · obtain rfl : b8 = false := by revert hp; cases b8 <;> simp
     clear hp
     refine inv_op (o := ⟨some 85, _, _, _, _, _⟩) rfl (fun K' hK' => ?_)
     go_simp
     exact hK'.out _ _ ⟨.mk .., rfl, rfl, Nx4 (Nx4 (Upd (fun _ => rfl))) HI.out⟩
   · obtain ⟨rfl, e8⟩ : b9 = false ∧ b8 = true := by revert hp; cases b9 <;> cases b8 <;> simp
     clear hp
     obtain rfl := (HI.out.2.2.2.2.2.2.2.2.1) e8
     refine inv_op (o := ⟨some 86, _, _, _, _, _⟩) rfl (fun K' hK' => ?_)
     have rC := HI.out.2.2.2.2.2.2.2.2.2.2.2.2.2.2.1
     obtain ⟨hc0, _⟩ := at_cell rC 0 _ rfl
     go_simp
     exact hK'.out _ _ ⟨.mk .., rfl, rfl, Nxt (Nx4 (Nx4 (Upd (fun _ => rfl)))) HI.out⟩
   · obtain ⟨rfl, e3⟩ : b10 = false ∧ b3 = true := by revert hp; cases b10 <;> cases b3 <;> simp
     clear hp
     obtain rfl := (HI.out.2.2.2.1) e3
     refine inv_op (o := ⟨none, _, _, _, _, _⟩) rfl (fun K' hK' => ?_)
     have gi11 := HI.out.2.2.2.2.2.2.2.2.2.2.2.2.1
     have rA0 := HI.out.2.2.2.2.2.2.2.2.2.2.2.2.2.2.2.1
     have hbf11 : b11 = false := by cases b11 with | false => rfl | true => exact absurd ((gi11 rfl)) (by decide)
     subst hbf11
     obtain ⟨hc0, hz0⟩ := at_cell (rA0 rfl) 0 _ rfl
     have hlt := (Array.getElem?_eq_some_iff.1 (rA0 rfl)).1
     go_simp
     obtain ⟨h0, h1, h2, h3, h4, h5, h6, h7, h8, h9, h12, h13, gi11, rW, rC, rA0, rA1, rQ0, rQ1, gB, gW⟩ := HI.out
     exact hK'.out _ _ ⟨.mk .., rfl, rfl, h0, h1, h2, h3, h4, h5, h6, h7, h8, h9, h12, h13, (fun e => by cases e), (one_other rW ⟨w.heap.size + 1 + 1, 0, none⟩ (.slice ra L rc) (blocks_ne rW (rA0 rfl) (by decide))), (one_other rC ⟨w.heap.size + 1 + 1, 0, none⟩ (.slice ra L rc) (blocks_ne rC (rA0 rfl) (by decide))), (fun e => by cases e), (fun _ => (row_put (rA0 rfl) 0 (.slice ra L rc))), (fun e => (one_other (rQ0 e) ⟨w.heap.size + 1 + 1, 0, none⟩ (.slice ra L rc) (blocks_ne (rQ0 e) (rA0 rfl) (by decide)))), (fun e => by cases e), (gB.setCell (p := ⟨w.heap.size + 1 + 1, 0, none⟩) (by show w.heap.size ≤ w.heap.size + 1 + 1; omega) (.slice ra L rc)), (gW.stay (rA0 rfl) (by decide) (by decide) (by decide) (by decide) 0 (.slice ra L rc))⟩
   · obtain ⟨rfl, e7, e10⟩ : b11 = false ∧ b7 = true ∧ b10 = true := by revert hp; cases b11 <;> cases b7 <;> cases b10 <;> simp
     clear hp
     obtain rfl := (HI.out.2.2.2.2.2.2.2.1) e7
     refine inv_op (o := ⟨none, _, _, _, _, _⟩) rfl (fun K' hK' => ?_)
     have rQ0 := HI.out.2.2.2.2.2.2.2.2.2.2.2.2.2.2.2.2.2.1
     obtain ⟨hc0, hz0⟩ := at_cell (rQ0 rfl) 0 _ rfl
     obtain ⟨hc1, hz1⟩ := at_cell (rQ0 rfl) 1 _ rfl
     obtain ⟨hc2, hz2⟩ := at_cell (rQ0 rfl) 2 _ rfl
     obtain ⟨hc3, hz3⟩ := at_cell (rQ0 rfl) 3 _ rfl
     obtain ⟨hc4, hz4⟩ := at_cell (rQ0 rfl) 4 _ rfl
     obtain ⟨hc5, hz5⟩ := at_cell (rQ0 rfl) 5 _ rfl
     have hlt := (Array.getElem?_eq_some_iff.1 (rQ0 rfl)).1
     go_simp
     obtain ⟨h0, h1, h2, h3, h4, h5, h6, h7, h8, h9, h12, h13, gi11, rW, rC, rA0, rA1, rQ0, rQ1, gB, gW⟩ := HI.out
     exact hK'.out _ _ ⟨.mk .., rfl, rfl, h0, h1, h2, h3, h4, h5, h6, h7, h8, h9, h12, h13, (fun _ => e10), (one_other (one_other (one_other (one_other (one_other (one_other rW ⟨w.heap.size + 1 + 1 + 1, 0, none⟩ (.int .i64 (bq : Nat)) (blocks_ne rW (rQ0 rfl) (by decide))) ⟨w.heap.size + 1 + 1 + 1, 1, none⟩ (.int .i64 (N : Nat)) (blocks_ne rW (rQ0 rfl) (by decide))) ⟨w.heap.size + 1 + 1 + 1, 2, none⟩ (.slice f2 n2 k2) (blocks_ne rW (rQ0 rfl) (by decide))) ⟨w.heap.size + 1 + 1 + 1, 3, none⟩ (.int .u16 (a1 : Nat)) (blocks_ne rW (rQ0 rfl) (by decide))) ⟨w.heap.size + 1 + 1 + 1, 4, none⟩ (.int .u16 (la : Nat)) (blocks_ne rW (rQ0 rfl) (by decide))) ⟨w.heap.size + 1 + 1 + 1, 5, none⟩ (.slice c2 m2 j2) (blocks_ne rW (rQ0 rfl) (by decide))), (one_other (one_other (one_other (one_other (one_other (one_other rC ⟨w.heap.size + 1 + 1 + 1, 0, none⟩ (.int .i64 (bq : Nat)) (blocks_ne rC (rQ0 rfl) (by decide))) ⟨w.heap.size + 1 + 1 + 1, 1, none⟩ (.int .i64 (N : Nat)) (blocks_ne rC (rQ0 rfl) (by decide))) ⟨w.heap.size + 1 + 1 + 1, 2, none⟩ (.slice f2 n2 k2) (blocks_ne rC (rQ0 rfl) (by decide))) ⟨w.heap.size + 1 + 1 + 1, 3, none⟩ (.int .u16 (a1 : Nat)) (blocks_ne rC (rQ0 rfl) (by decide))) ⟨w.heap.size + 1 + 1 + 1, 4, none⟩ (.int .u16 (la : Nat)) (blocks_ne rC (rQ0 rfl) (by decide))) ⟨w.heap.size + 1 + 1 + 1, 5, none⟩ (.slice c2 m2 j2) (blocks_ne rC (rQ0 rfl) (by decide))), (fun e => (one_other (one_other (one_other (one_other (one_other (one_other (rA0 e) ⟨w.heap.size + 1 + 1 + 1, 0, none⟩ (.int .i64 (bq : Nat)) (blocks_ne (rA0 e) (rQ0 rfl) (by decide))) ⟨w.heap.size + 1 + 1 + 1, 1, none⟩ (.int .i64 (N : Nat)) (blocks_ne (rA0 e) (rQ0 rfl) (by decide))) ⟨w.heap.size + 1 + 1 + 1, 2, none⟩ (.slice f2 n2 k2) (blocks_ne (rA0 e) (rQ0 rfl) (by decide))) ⟨w.heap.size + 1 + 1 + 1, 3, none⟩ (.int .u16 (a1 : Nat)) (blocks_ne (rA0 e) (rQ0 rfl) (by decide))) ⟨w.heap.size + 1 + 1 + 1, 4, none⟩ (.int .u16 (la : Nat)) (blocks_ne (rA0 e) (rQ0 rfl) (by decide))) ⟨w.heap.size + 1 + 1 + 1, 5, none⟩ (.slice c2 m2 j2) (blocks_ne (rA0 e) (rQ0 rfl) (by decide)))), (fun e => (one_other (one_other (one_other (one_other (one_other (one_other (rA1 e) ⟨w.heap.size + 1 + 1 + 1, 0, none⟩ (.int .i64 (bq : Nat)) (blocks_ne (rA1 e) (rQ0 rfl) (by decide))) ⟨w.heap.size + 1 + 1 + 1, 1, none⟩ (.int .i64 (N : Nat)) (blocks_ne (rA1 e) (rQ0 rfl) (by decide))) ⟨w.heap.size + 1 + 1 + 1, 2, none⟩ (.slice f2 n2 k2) (blocks_ne (rA1 e) (rQ0 rfl) (by decide))) ⟨w.heap.size + 1 + 1 + 1, 3, none⟩ (.int .u16 (a1 : Nat)) (blocks_ne (rA1 e) (rQ0 rfl) (by decide))) ⟨w.heap.size + 1 + 1 + 1, 4, none⟩ (.int .u16 (la : Nat)) (blocks_ne (rA1 e) (rQ0 rfl) (by decide))) ⟨w.heap.size + 1 + 1 + 1, 5, none⟩ (.slice c2 m2 j2) (blocks_ne (rA1 e) (rQ0 rfl) (by decide)))), (fun e => by cases e), (fun _ => (row_put (row_put (row_put (row_put (row_put (row_put (rQ0 rfl) 0 (.int .i64 (bq : Nat))) 1 (.int .i64 (N : Nat))) 2 (.slice f2 n2 k2)) 3 (.int .u16 (a1 : Nat))) 4 (.int .u16 (la : Nat))) 5 (.slice c2 m2 j2))), ((((((gB.setCell (p := ⟨w.heap.size + 1 + 1 + 1, 0, none⟩) (by show w.heap.size ≤ w.heap.size + 1 + 1 + 1; omega) (.int .i64 (bq : Nat))).setCell (p := ⟨w.heap.size + 1 + 1 + 1, 1, none⟩) (by show w.heap.size ≤ w.heap.size + 1 + 1 + 1; omega) (.int .i64 (N : Nat))).setCell (p := ⟨w.heap.size + 1 + 1 + 1, 2, none⟩) (by show w.heap.size ≤ w.heap.size + 1 + 1 + 1; omega) (.slice f2 n2 k2)).setCell (p := ⟨w.heap.size + 1 + 1 + 1, 3, none⟩) (by show w.heap.size ≤ w.heap.size + 1 + 1 + 1; omega) (.int .u16 (a1 : Nat))).setCell (p := ⟨w.heap.size + 1 + 1 + 1, 4, none⟩) (by show w.heap.size ≤ w.heap.size + 1 + 1 + 1; omega) (.int .u16 (la : Nat))).setCell (p := ⟨w.heap.size + 1 + 1 + 1, 5, none⟩) (by show w.heap.size ≤ w.heap.size + 1 + 1 + 1; omega) (.slice c2 m2 j2)), ((((((gW.stay (rQ0 rfl) (by decide) (by decide) (by decide) (by decide) 0 (.int .i64 (bq : Nat))).stay (row_put (rQ0 rfl) 0 (.int .i64 (bq : Nat))) (by decide) (by decide) (by decide) (by decide) 1 (.int .i64 (N : Nat))).stay (row_put (row_put (rQ0 rfl) 0 (.int .i64 (bq : Nat))) 1 (.int .i64 (N : Nat))) (by decide) (by decide) (by decide) (by decide) 2 (.slice f2 n2 k2)).stay (row_put (row_put (row_put (rQ0 rfl) 0 (.int .i64 (bq : Nat))) 1 (.int .i64 (N : Nat))) 2 (.slice f2 n2 k2)) (by decide) (by decide) (by decide) (by decide) 3 (.int .u16 (a1 : Nat))).stay (row_put (row_put (row_put (row_put (rQ0 rfl) 0 (.int .i64 (bq : Nat))) 1 (.int .i64 (N : Nat))) 2 (.slice f2 n2 k2)) 3 (.int .u16 (a1 : Nat))) (by decide) (by decide) (by decide) (by decide) 4 (.int .u16 (la : Nat))).stay (row_put (row_put (row_put (row_put (row_put (rQ0 rfl) 0 (.int .i64 (bq : Nat))) 1 (.int .i64 (N : Nat))) 2 (.slice f2 n2 k2)) 3 (.int .u16 (a1 : Nat))) 4 (.int .u16 (la : Nat))) (by decide) (by decide) (by decide) (by decide) 5 (.slice c2 m2 j2))⟩
   · obtain ⟨rfl, e9, e11⟩ : b12 = false ∧ b9 = true ∧ b11 = true := by revert hp; cases b12 <;> cases b9 <;> cases b11 <;> simp
     clear hp
     obtain rfl := (HI.out.2.2.2.2.2.2.2.2.2.1) e9
     refine inv_op (o := ⟨some 8, _, _, _, _, _⟩) rfl (fun K' hK' => ?_)
     go_simp
     exact hK'.out _ _ ⟨.mk .., rfl, rfl, Nxt (Nxt (Nx4 (Nx4 (Upd (fun _ => rfl))))) HI.out⟩
   · obtain ⟨rfl, e12⟩ : b13 = false ∧ b12 = true := by revert hp; cases b13 <;> cases b12 <;> simp
     clear hp
     refine inv_op (o := ⟨some 9, _, _, _, _, _⟩) rfl (fun K' hK' => ?_)
     go_simp
     exact hK'.out _ _ ⟨.mk .., rfl, rfl, Nxt (Nxt (Nxt (Nx4 (Nx4 (Upd (fun _ => rfl)))))) HI.out⟩
  case hdone =>
   rintro ⟨b0, b1, b2, b3, b4, b5, b6, b7, b8, b9, b10, b11, b12, b13, s77, s78, s79, s80, s81, s82, s83, s84, s85, s86, s8, s9⟩ W hI hall
   dsimp only at hI hall ⊢
   have HI := Lib.hid hI
   clear hI
   obtain rfl : b0 = true := hall 0 (by decide)
   obtain rfl : b1 = true := hall 1 (by decide)
   obtain rfl : b2 = true := hall 2 (by decide)
   obtain rfl : b3 = true := hall 3 (by decide)
   obtain rfl : b4 = true := hall 4 (by decide)
   obtain rfl : b5 = true := hall 5 (by decide)
   obtain rfl : b6 = true := hall 6 (by decide)
   obtain rfl : b7 = true := hall 7 (by decide)
   obtain rfl : b8 = true := hall 8 (by decide)
   obtain rfl : b9 = true := hall 9 (by decide)
   obtain rfl : b10 = true := hall 10 (by decide)
   obtain rfl : b11 = true := hall 11 (by decide)
   obtain rfl : b12 = true := hall 12 (by decide)
   obtain rfl : b13 = true := hall 13 (by decide)
   obtain rfl := (HI.out.2.2.2.2.2.2.2.2.2.2.1) rfl
   obtain rfl := (HI.out.2.2.2.2.2.2.2.2.2.2.2.1) rfl
   have rA1 := HI.out.2.2.2.2.2.2.2.2.2.2.2.2.2.2.2.2.1
   have rQ1 := HI.out.2.2.2.2.2.2.2.2.2.2.2.2.2.2.2.2.2.2.1
   have gB := HI.out.2.2.2.2.2.2.2.2.2.2.2.2.2.2.2.2.2.2.2.1
   have gW := HI.out.2.2.2.2.2.2.2.2.2.2.2.2.2.2.2.2.2.2.2.2
   clear HI hall
   obtain ⟨⟨r0, r1, r2, r3, r4, r5⟩, _⟩ := cells_six (rQ1 rfl)
   obtain ⟨r6, _⟩ := one_cell (rA1 rfl)
   have HB9 := Lib.hid gB
   have HW9 := Lib.hid gW
   clear rA1 rQ1 gB gW HW8 HX8 HA8 HQ8 HB8
   go_wp2
   refine bodyPost_ret (v := .tuple #[.agg #[.slice ra L rc], .agg #[.int .i64 (bq : Nat), .int .i64 (N : Nat), (.slice f2 n2 k2), .int .u16 (a1 : Nat), .int .u16 (la : Nat), (.slice c2 m2 j2)], .int .i64 (hd : Nat), .int .i64 0]) (by simp [results, Tryz.results9, go_sem, r0, r1, r2, r3, r4, r5, r6]) rfl ⟨ra, rc, _, _, E8, by rw [HHD.out, HA1.out], by rw [HL3.out]; exact HW9.out.mem, ?_, HB9.out⟩
   have h9 := HW9.out.isq.base (Nat.zero_le _)
   rw [HFR8.out, HCH8.out, HA1.out] at h9
   exact h9
set_option maxHeartbeats 4000000 in
set_option maxRecDepth 100000 in
theorem add_full (q : QQ) (N bq : Nat) (F C v bv : Value) (D : List Value) (l : List UInt8) (bs : List QB) (w : World) (hv : OwnB 0 w v l) (hq : IsQ 0 w F C q D) (hbf : OwnBf 0 w bv bs) (hg : GoodQ q N) (hbq : q.base = (bq : Nat)) (hok : RingOk l.length bq N) (h1 : 1 ≤ bs.length) (h2 : q.free.length < bs.length) (h4 : bs.length ≤ N) (h3 : ∀ x ∈ bs, InB l.length x) :
 Calls Tryz.prog 9 #[.agg #[v], .agg #[.int .i64 q.base, .int .i64 q.size, F, .int .u16 (q.avail : Nat), .int .u16 (q.last : Nat), C], bv] w fun e w' => ∃ ra rc F2 C2 D2, e = .returned (.tuple #[.agg #[.slice ra l.length rc], .agg #[.int .i64 q.base, .int .i64 q.size, F2, .int .u16 (q.avail : Nat), .int .u16 (q.last : Nat), C2], .int .i64 0, .int .i64 4]) ∧ OwnB 0 w' (.slice ra l.length rc) l ∧ IsQ 0 w' F2 C2 q D2 ∧ Below w.heap.size w w' := by
 obtain ⟨few1, few2, few3, few4, few5⟩ := hg.few
 obtain ⟨fa, fn, fc, ca, cn, cc, rfl, rfl, hfn, hcn, k1, k2, k3, k4⟩ := hq.shape
 have hzN := hg.size
 obtain ⟨b, z, fr, av, la, ch⟩ := q
 simp only at *
 subst hbq
 subst hzN
 obtain ⟨va, vc, rfl, hv1, hv2⟩ := hv.shape
 obtain ⟨L, hL⟩ : ∃ L, L = l.length := ⟨_, rfl⟩
 rw [← hL] at hv hok h3 hv1 ⊢
 obtain ⟨ba, bc, rfl, hb1, hb2⟩ := hbf.shape
 obtain ⟨n, hn⟩ : ∃ n, n = bs.length := ⟨_, rfl⟩
 rw [← hn] at h1 h2 h4 hb1 hbf ⊢
 obtain ⟨t0, t1, t2, t3, t4⟩ := four_boxes w #[.slice va L vc] #[.int .i64 (bq : Nat), .int .i64 (N : Nat), .slice fa fn fc, .int .u16 (av : Nat), .int .u16 (la : Nat), .slice ca cn cc] #[.slice none 0 0] #[.int .i64 0, .int .i64 0, .slice none 0 0, .int .u16 0, .int .u16 0, .slice none 0 0] 26 30 26 30
 have HM := Lib.hid t0
 have HA := Lib.hid t2
 have HR := Lib.hid t3
 have HB := Lib.hid t4
 have HQ := Lib.hid (hq.below t4)
 have HO := Lib.hid (hv.below t4)
 have HBF := Lib.hid (hbf.below t4)
 have HG := Lib.hid hg
 have HOK := Lib.hid hok
 have HIN := Lib.hid h3
 have HN := Lib.hid hn
 have HLL := Lib.hid hL.symm
 have HL8 := Lib.hid (show l.length ≤ 140737488355328 by have := hok.few; omega)
 have HBS := Lib.hid (show ((((w.alloc (.cells #[.slice va L vc] 26)).alloc (.cells #[.int .i64 (bq : Nat), .int .i64 (N : Nat), .slice fa fn fc, .int .u16 (av : Nat), .int .u16 (la : Nat), .slice ca cn cc] 30)).alloc (.cells #[.slice none 0 0] 26)).alloc (.cells #[.int .i64 0, .int .i64 0, .slice none 0 0, .int .u16 0, .int .u16 0, .slice none 0 0] 30)).heap.size = w.heap.size + 4 by simp)
 have HF1 := Lib.hid h1
 have HF2 := Lib.hid h2
 have HF4 := Lib.hid h4
 have HFN := Lib.hid hfn
 clear hq hg hv hbf hok h3 hfn hcn k1 k2 k3 k4 hv1 hv2 hb1 hb2 hL hn t0 t1 t2 t3 t4 few1 few2 few3 few4 few5 h1 h2 h4
 go_enter Tryz.func9, Tryz.ntmps9
 go_wp2_with fail
 refine (begin_any ⟨(bq : Nat), (N : Nat), fr, av, la, ch⟩ N _ _ _ D l _ HO.out HQ.out HG.out (by rw [HLL.out]; exact HOK.out.ok)).mono ?_
 rintro e w1 ⟨g, F2, C2, E, rfl, hw, hb⟩
 obtain ⟨f2, n2, k2, c2, m2, j2, rfl, rfl, q1, q2, q3, q4, q5, q6⟩ := hw.isq.shape
 clear q1 q2 q3 q4 q5 q6
 have HM1 := Lib.hid (row_keep HM.out hb)
 have HA1 := Lib.hid (row_keep HA.out hb)
 have HR1 := Lib.hid (row_keep HR.out hb)
 have HB1 := Lib.hid (HB.out.trans (hb.mono HB.out.size))
 have HBF1 := Lib.hid (HBF.out.below hb)
 rw [HBS.out] at hw
 have HW1 := Lib.hid hw
 have HS1 := Lib.hid (show w.heap.size + 4 ≤ w1.heap.size by have := hb.size; rw [HBS.out] at this; exact this)
 clear hw hb HM HA HR HB HQ HO HBF
 go_wp2_with fail
 refine (addFault_any _ g ⟨(bq : Nat), (N : Nat), fr, av, la, ch⟩ N _ _ _ _ _ l bs 4 _ HW1.out HBF1.out HG.out (by rw [HLL.out]; exact HOK.out.few) (by rw [← HN.out]; exact HF1.out) (by rw [← HN.out]; exact HF4.out) (by rw [HLL.out]; exact HIN.out) (.inr ⟨by rw [← HN.out]; exact HF2.out, rfl⟩)).mono ?_
 rintro e w2 ⟨rfl, hb⟩
 have HM2 := Lib.hid (row_keep HM1.out hb)
 have HA2 := Lib.hid (row_keep HA1.out hb)
 have HQ2 := Lib.hid (row_keep HR1.out hb)
 have HB2 := Lib.hid (HB1.out.trans (hb.mono HB1.out.size))
 have HBF2 := Lib.hid (HBF1.out.below hb)
 have HW2 := Lib.hid (HW1.out.below hb)
 have HS2 := Lib.hid (Nat.le_trans HS1.out hb.size)
 clear hb HM1 HA1 HR1 HB1 HBF1 HW1 HS1
 obtain ⟨B, hBB⟩ : ∃ B, B = w.heap.size + 4 := ⟨_, rfl⟩
 rw [← hBB] at HW2 HS2
 have HBQ := Lib.hid hBB
 clear hBB
 go_wp2_with fail
 refine wp_region_rec (X := QueAddC) (by kernel_rfl) (by kernel_rfl) (fun x => #[x.b0, x.b1, x.b2, x.b3, x.b4, x.b5, x.b6, x.b7, x.b8, x.b9, x.b10]) (fun x => { tmps := List.toArray ((.agg #[.slice va L vc]) :: (.agg #[.int .i64 (bq : Nat), .int .i64 (N : Nat), .slice fa fn fc, .int .u16 (av : Nat), .int .u16 (la : Nat), .slice ca cn cc]) :: (.slice ba n bc) :: (.pointer (some ⟨w.heap.size, 0, none⟩)) :: (.pointer (some ⟨w.heap.size + 1, 0, none⟩)) :: undef :: (.pointer (some ⟨w.heap.size + 1 + 1, 0, none⟩)) :: (.pointer (some ⟨w.heap.size + 1 + 1 + 1, 0, none⟩)) :: x.s8 :: x.s9 :: (.pointer (some ⟨g, 0, none⟩)) :: (.int .i64 4) :: undef :: (.tuple #[.pointer (some ⟨g, 0, none⟩), .int .i64 0]) :: (.agg #[.slice va L vc]) :: (.agg #[.int .i64 (bq : Nat), .int .i64 (N : Nat), .slice fa fn fc, .int .u16 (av : Nat), .int .u16 (la : Nat), .slice ca cn cc]) :: (.tuple #[.pointer (some ⟨g, 0, none⟩), .int .i64 0]) :: (.pointer (some ⟨g, 0, none⟩)) :: (.int .i64 0) :: (.int .i64 0) :: (.bool true) :: (.pointer (some ⟨g, 0, none⟩)) :: (.slice ba n bc) :: (.int .i64 4) :: (.int .i64 4) :: (.bool true) :: x.s26 :: x.s27 :: x.s28 :: x.s29 :: x.s30 :: x.s31 :: x.s32 :: undef :: undef :: undef :: undef :: undef :: undef :: undef :: undef :: undef :: undef :: undef :: undef :: undef :: undef :: undef :: undef :: undef :: undef :: undef :: undef :: undef :: undef :: undef :: undef :: undef :: undef :: undef :: undef :: undef :: undef :: undef :: undef :: undef :: undef :: undef :: undef :: undef :: undef :: undef :: undef :: undef :: undef :: undef :: undef :: undef :: undef :: undef :: undef :: undef :: undef :: undef :: undef :: undef :: undef :: []), defers := [] }) (fun x W => (x.b0 = true → x.s26 = .agg #[.slice va L vc]) ∧ (x.b2 = true → x.s28 = .pointer (some ⟨g, 0, none⟩)) ∧ (x.b3 = true → x.s29 = .pointer (some ⟨g, 0, none⟩)) ∧ (x.b4 = true → x.s30 = .pointer (some ⟨g, 0, none⟩)) ∧ (x.b5 = true → x.s31 = .agg #[.int .i64 (bq : Nat), .int .i64 (N : Nat), .slice f2 n2 k2, .int .u16 (av : Nat), .int .u16 (la : Nat), .slice c2 m2 j2]) ∧ (x.b6 = true → x.s32 = .int .i64 4) ∧ (x.b9 = true → x.s8 = .int .i64 0) ∧ (x.b10 = true → x.s9 = .int .i64 4) ∧ (x.b7 = true → x.b1 = true) ∧ (x.b8 = true → x.b1 = true ∧ x.b7 = true) ∧ (W.heap[w.heap.size]? = some (.cells #[.slice va L vc] 26 (0, 0))) ∧ (W.heap[g]? = some (.cells #[.int .i64 (bq : Nat), .int .i64 (N : Nat), .slice f2 n2 k2, .int .u16 (av : Nat), .int .u16 (la : Nat), .slice c2 m2 j2, .slice va L vc] 74 (0, 0))) ∧ (x.b7 = false → W.heap[w.heap.size + 1 + 1]? = some (.cells #[.slice none 0 0] 26 (0, 0))) ∧ (x.b8 = false → W.heap[w.heap.size + 1 + 1 + 1]? = some (.cells #[.int .i64 0, .int .i64 0, .slice none 0 0, .int .u16 0, .int .u16 0, .slice none 0 0] 30 (0, 0))) ∧ (x.b8 = true → W.heap[w.heap.size + 1 + 1 + 1]? = some (.cells #[.int .i64 (bq : Nat), .int .i64 (N : Nat), .slice f2 n2 k2, .int .u16 (av : Nat), .int .u16 (la : Nat), .slice c2 m2 j2] 30 (0, 0))) ∧ (Below w.heap.size w W) ∧ (WorkB B W g ⟨(bq : Nat), (N : Nat), fr, av, la, ch⟩ (.slice f2 n2 k2) (.slice c2 m2 j2) (.slice va L vc) E l) ∧ (x.b1 = true → ∃ ra rc, x.s27 = .agg #[.slice ra L rc] ∧ OwnB 0 W (.slice ra L rc) l) ∧ (x.b7 = true → ∃ ra rc, W.heap[w.heap.size + 1 + 1]? = some (.cells #[.slice ra L rc] 26 (0, 0)) ∧ OwnB 0 W (.slice ra L rc) l)) ⟨false, false, false, false, false, false, false, false, false, false, false, undef, undef, undef, undef, undef, undef, undef, .int .i64 0, .int .i64 0⟩ rfl rfl ⟨(fun h => by cases h), (fun h => by cases h), (fun h => by cases h), (fun h => by cases h), (fun h => by cases h), (fun h => by cases h), (fun h => by cases h), (fun h => by cases h), (fun h => by cases h), (fun h => by cases h), HM2.out, HW2.out.row, (fun _ => HA2.out), (fun _ => HQ2.out), (fun h => by cases h), HB2.out.drew, HW2.out.drew, (fun h => by cases h), (fun h => by cases h)⟩ (fun _ => rfl) ?hstep ?hdone
 case hstep =>
  rintro ⟨b0, b1, b2, b3, b4, b5, b6, b7, b8, b9, b10, s26, s27, s28, s29, s30, s31, s32, s8, s9⟩ W hI i hi
  dsimp only at hI hi ⊢
  have HI := Lib.hid hI
  clear hI
  rw [Region.ready, List.mem_filter, List.mem_range] at hi
  obtain ⟨hlt, hp⟩ := hi
  have hi7 : i = 0 ∨ i = 1 ∨ i = 2 ∨ i = 3 ∨ i = 4 ∨ i = 5 ∨ i = 6 ∨ i = 7 ∨ i = 8 ∨ i = 9 ∨ i = 10 := by simp at hlt; omega
  clear hlt
  rcases hi7 with rfl | rfl | rfl | rfl | rfl | rfl | rfl | rfl | rfl | rfl | rfl
  all_goals simp [Region.binds] at hp
  · obtain rfl : b0 = false := by revert hp; cases b0 <;> simp
    clear hp
    refine inv_op (o := ⟨some 26, _, _, _, _, _⟩) rfl (fun K' hK' => ?_)
    have rM := HI.out.2.2.2.2.2.2.2.2.2.2.1
    obtain ⟨hc0, _⟩ := at_cell rM 0 _ rfl
    go_simp
    exact hK'.out _ _ ⟨.mk .., rfl, rfl, (Upd (fun _ => rfl)) HI.out⟩
  · obtain ⟨rfl, e0⟩ : b1 = false ∧ b0 = true := by revert hp; cases b1 <;> cases b0 <;> simp
    clear hp
    obtain rfl := (HI.out.1) e0
    refine inv_op (o := ⟨some 27, _, _, _, _, _⟩) rfl (fun K' hK' => ?_)
    have gi7 := HI.out.2.2.2.2.2.2.2.2.1
    have gi8 := HI.out.2.2.2.2.2.2.2.2.2.1
    have gW := HI.out.2.2.2.2.2.2.2.2.2.2.2.2.2.2.2.2.1
    have hbf7 : b7 = false := by cases b7 with | false => rfl | true => exact absurd ((gi7 rfl)) (by decide)
    subst hbf7
    have hbf8 : b8 = false := by cases b8 with | false => rfl | true => exact absurd ((gi8 rfl).1) (by decide)
    subst hbf8
    go_simp
    refine (queSame_any _ l W gW.mem.arg HL8.out).mono ?_
    rintro e w3 ⟨r, rfl, hr, bn⟩
    obtain ⟨ra, rc, hre, hr1, hr2⟩ := owns_slice hr
    rw [HLL.out] at hre
    subst hre
    clear hr1 hr2
    obtain ⟨h0, h2, h3, h4, h5, h6, h9, h10, gi7, gi8, rM, rW, rA0, rQ0, rQ1, gB, gW, gS, gA⟩ := HI.out
    exact hK'.out _ _ ⟨.mk .., rfl, rfl, h0, h2, h3, h4, h5, h6, h9, h10, (fun e => by cases e), (fun e => by cases e), (row_keep rM bn), (row_keep rW bn), (fun e => row_keep (rA0 e) bn), (fun e => row_keep (rQ0 e) bn), (fun e => by cases e), (gB.trans (bn.mono gB.size)), (gW.below bn), (fun _ => ⟨ra, rc, rfl, (ownsRow_base hr (Nat.zero_le _))⟩), (fun e => by cases e)⟩
  · obtain rfl : b2 = false := by revert hp; cases b2 <;> simp
    clear hp
    refine inv_op (o := ⟨some 28, _, _, _, _, _⟩) rfl (fun K' hK' => ?_)
    go_simp
    exact hK'.out _ _ ⟨.mk .., rfl, rfl, Nxt (Upd (fun _ => rfl)) HI.out⟩
  · obtain ⟨rfl, e2⟩ : b3 = false ∧ b2 = true := by revert hp; cases b3 <;> cases b2 <;> simp
    clear hp
    obtain rfl := (HI.out.2.1) e2
    refine inv_op (o := ⟨some 29, _, _, _, _, _⟩) rfl (fun K' hK' => ?_)
    go_simp
    exact hK'.out _ _ ⟨.mk .., rfl, rfl, Nxt (Nxt (Upd (fun _ => rfl))) HI.out⟩
  · obtain ⟨rfl, e3⟩ : b4 = false ∧ b3 = true := by revert hp; cases b4 <;> cases b3 <;> simp
    clear hp
    obtain rfl := (HI.out.2.2.1) e3
    refine inv_op (o := ⟨some 30, _, _, _, _, _⟩) rfl (fun K' hK' => ?_)
    go_simp
    exact hK'.out _ _ ⟨.mk .., rfl, rfl, Nxt (Nxt (Nxt (Upd (fun _ => rfl)))) HI.out⟩
  · obtain ⟨rfl, e4⟩ : b5 = false ∧ b4 = true := by revert hp; cases b5 <;> cases b4 <;> simp
    clear hp
    obtain rfl := (HI.out.2.2.2.1) e4
    refine inv_op (o := ⟨some 31, _, _, _, _, _⟩) rfl (fun K' hK' => ?_)
    have rW := HI.out.2.2.2.2.2.2.2.2.2.2.2.1
    obtain ⟨hc0, _⟩ := at_cell rW 0 _ rfl
    obtain ⟨hc1, _⟩ := at_cell rW 1 _ rfl
    obtain ⟨hc2, _⟩ := at_cell rW 2 _ rfl
    obtain ⟨hc3, _⟩ := at_cell rW 3 _ rfl
    obtain ⟨hc4, _⟩ := at_cell rW 4 _ rfl
    obtain ⟨hc5, _⟩ := at_cell rW 5 _ rfl
    go_simp
    exact hK'.out _ _ ⟨.mk .., rfl, rfl, Nx4 (Upd (fun _ => rfl)) HI.out⟩
  · obtain rfl : b6 = false := by revert hp; cases b6 <;> simp
    clear hp
    refine inv_op (o := ⟨some 32, _, _, _, _, _⟩) rfl (fun K' hK' => ?_)
    go_simp
    exact hK'.out _ _ ⟨.mk .., rfl, rfl, Nxt (Nx4 (Upd (fun _ => rfl))) HI.out⟩
  · obtain ⟨rfl, e1⟩ : b7 = false ∧ b1 = true := by revert hp; cases b7 <;> cases b1 <;> simp
    clear hp
    refine inv_op (o := ⟨none, _, _, _, _, _⟩) rfl (fun K' hK' => ?_)
    have gi8 := HI.out.2.2.2.2.2.2.2.2.2.1
    have rA0 := HI.out.2.2.2.2.2.2.2.2.2.2.2.2.1
    have gS := HI.out.2.2.2.2.2.2.2.2.2.2.2.2.2.2.2.2.2.1
    have hbf8 : b8 = false := by cases b8 with | false => rfl | true => exact absurd ((gi8 rfl).2) (by decide)
    subst hbf8
    obtain ⟨ra, rc, rfl, hp⟩ := gS e1
    obtain ⟨hc0, hz0⟩ := at_cell (rA0 rfl) 0 _ rfl
    have hlt := (Array.getElem?_eq_some_iff.1 (rA0 rfl)).1
    go_simp
    obtain ⟨h0, h2, h3, h4, h5, h6, h9, h10, gi7, gi8, rM, rW, rA0, rQ0, rQ1, gB, gW, gS, gA⟩ := HI.out
    exact hK'.out _ _ ⟨.mk .., rfl, rfl, h0, h2, h3, h4, h5, h6, h9, h10, (fun _ => e1), (fun e => by cases e), (one_other rM ⟨w.heap.size + 1 + 1, 0, none⟩ (.slice ra L rc) (by show w.heap.size + 1 + 1 ≠ w.heap.size; omega)), (one_other rW ⟨w.heap.size + 1 + 1, 0, none⟩ (.slice ra L rc) (blocks_ne rW (rA0 rfl) (by decide))), (fun e => by cases e), (fun e => (one_other (rQ0 e) ⟨w.heap.size + 1 + 1, 0, none⟩ (.slice ra L rc) (blocks_ne (rQ0 e) (rA0 rfl) (by decide)))), (fun e => by cases e), (gB.setCell (p := ⟨w.heap.size + 1 + 1, 0, none⟩) (by show w.heap.size ≤ w.heap.size + 1 + 1; omega) (.slice ra L rc)), (gW.stay (rA0 rfl) (by decide) (by decide) (by decide) (by decide) 0 (.slice ra L rc)), (fun _ => ⟨ra, rc, rfl, hp.stay (rA0 rfl) (by decide) 0 _⟩), (fun _ => ⟨ra, rc, row_put (rA0 rfl) 0 (.slice ra L rc), hp.stay (rA0 rfl) (by decide) 0 _⟩)⟩
  · have hn8 : b8 = false := by revert hp; cases b8 <;> simp
    have e5 : b5 = true := by revert hp; cases b5 <;> simp
    have e7 : b7 = true := by revert hp; cases b7 <;> simp
    have e1 : b1 = true := by revert hp; cases b1 <;> simp
    clear hp
    obtain rfl := (HI.out.2.2.2.2.1) e5
    subst hn8
    refine inv_op (o := ⟨none, _, _, _, _, _⟩) rfl (fun K' hK' => ?_)
    have rQ0 := HI.out.2.2.2.2.2.2.2.2.2.2.2.2.2.1
    obtain ⟨hc0, hz0⟩ := at_cell (rQ0 rfl) 0 _ rfl
    obtain ⟨hc1, hz1⟩ := at_cell (rQ0 rfl) 1 _ rfl
    obtain ⟨hc2, hz2⟩ := at_cell (rQ0 rfl) 2 _ rfl
    obtain ⟨hc3, hz3⟩ := at_cell (rQ0 rfl) 3 _ rfl
    obtain ⟨hc4, hz4⟩ := at_cell (rQ0 rfl) 4 _ rfl
    obtain ⟨hc5, hz5⟩ := at_cell (rQ0 rfl) 5 _ rfl
    have hlt := (Array.getElem?_eq_some_iff.1 (rQ0 rfl)).1
    go_simp
    obtain ⟨h0, h2, h3, h4, h5, h6, h9, h10, gi7, gi8, rM, rW, rA0, rQ0, rQ1, gB, gW, gS, gA⟩ := HI.out
    exact hK'.out _ _ ⟨.mk .., rfl, rfl, h0, h2, h3, h4, h5, h6, h9, h10, gi7, (fun _ => ⟨e1, e7⟩), (one_other (one_other (one_other (one_other (one_other (one_other rM ⟨w.heap.size + 1 + 1 + 1, 0, none⟩ (.int .i64 (bq : Nat)) (blocks_ne rM (rQ0 rfl) (by decide))) ⟨w.heap.size + 1 + 1 + 1, 1, none⟩ (.int .i64 (N : Nat)) (blocks_ne rM (rQ0 rfl) (by decide))) ⟨w.heap.size + 1 + 1 + 1, 2, none⟩ (.slice f2 n2 k2) (blocks_ne rM (rQ0 rfl) (by decide))) ⟨w.heap.size + 1 + 1 + 1, 3, none⟩ (.int .u16 (av : Nat)) (blocks_ne rM (rQ0 rfl) (by decide))) ⟨w.heap.size + 1 + 1 + 1, 4, none⟩ (.int .u16 (la : Nat)) (blocks_ne rM (rQ0 rfl) (by decide))) ⟨w.heap.size + 1 + 1 + 1, 5, none⟩ (.slice c2 m2 j2) (blocks_ne rM (rQ0 rfl) (by decide))), (one_other (one_other (one_other (one_other (one_other (one_other rW ⟨w.heap.size + 1 + 1 + 1, 0, none⟩ (.int .i64 (bq : Nat)) (blocks_ne rW (rQ0 rfl) (by decide))) ⟨w.heap.size + 1 + 1 + 1, 1, none⟩ (.int .i64 (N : Nat)) (blocks_ne rW (rQ0 rfl) (by decide))) ⟨w.heap.size + 1 + 1 + 1, 2, none⟩ (.slice f2 n2 k2) (blocks_ne rW (rQ0 rfl) (by decide))) ⟨w.heap.size + 1 + 1 + 1, 3, none⟩ (.int .u16 (av : Nat)) (blocks_ne rW (rQ0 rfl) (by decide))) ⟨w.heap.size + 1 + 1 + 1, 4, none⟩ (.int .u16 (la : Nat)) (blocks_ne rW (rQ0 rfl) (by decide))) ⟨w.heap.size + 1 + 1 + 1, 5, none⟩ (.slice c2 m2 j2) (blocks_ne rW (rQ0 rfl) (by decide))), (fun e => (one_other (one_other (one_other (one_other (one_other (one_other (rA0 e) ⟨w.heap.size + 1 + 1 + 1, 0, none⟩ (.int .i64 (bq : Nat)) (blocks_ne (rA0 e) (rQ0 rfl) (by decide))) ⟨w.heap.size + 1 + 1 + 1, 1, none⟩ (.int .i64 (N : Nat)) (blocks_ne (rA0 e) (rQ0 rfl) (by decide))) ⟨w.heap.size + 1 + 1 + 1, 2, none⟩ (.slice f2 n2 k2) (blocks_ne (rA0 e) (rQ0 rfl) (by decide))) ⟨w.heap.size + 1 + 1 + 1, 3, none⟩ (.int .u16 (av : Nat)) (blocks_ne (rA0 e) (rQ0 rfl) (by decide))) ⟨w.heap.size + 1 + 1 + 1, 4, none⟩ (.int .u16 (la : Nat)) (blocks_ne (rA0 e) (rQ0 rfl) (by decide))) ⟨w.heap.size + 1 + 1 + 1, 5, none⟩ (.slice c2 m2 j2) (blocks_ne (rA0 e) (rQ0 rfl) (by decide)))), (fun e => by cases e), (fun _ => (row_put (row_put (row_put (row_put (row_put (row_put (rQ0 rfl) 0 (.int .i64 (bq : Nat))) 1 (.int .i64 (N : Nat))) 2 (.slice f2 n2 k2)) 3 (.int .u16 (av : Nat))) 4 (.int .u16 (la : Nat))) 5 (.slice c2 m2 j2))), ((((((gB.setCell (p := ⟨w.heap.size + 1 + 1 + 1, 0, none⟩) (by show w.heap.size ≤ w.heap.size + 1 + 1 + 1; omega) (.int .i64 (bq : Nat))).setCell (p := ⟨w.heap.size + 1 + 1 + 1, 1, none⟩) (by show w.heap.size ≤ w.heap.size + 1 + 1 + 1; omega) (.int .i64 (N : Nat))).setCell (p := ⟨w.heap.size + 1 + 1 + 1, 2, none⟩) (by show w.heap.size ≤ w.heap.size + 1 + 1 + 1; omega) (.slice f2 n2 k2)).setCell (p := ⟨w.heap.size + 1 + 1 + 1, 3, none⟩) (by show w.heap.size ≤ w.heap.size + 1 + 1 + 1; omega) (.int .u16 (av : Nat))).setCell (p := ⟨w.heap.size + 1 + 1 + 1, 4, none⟩) (by show w.heap.size ≤ w.heap.size + 1 + 1 + 1; omega) (.int .u16 (la : Nat))).setCell (p := ⟨w.heap.size + 1 + 1 + 1, 5, none⟩) (by show w.heap.size ≤ w.heap.size + 1 + 1 + 1; omega) (.slice c2 m2 j2)), ((((((gW.stay (rQ0 rfl) (by decide) (by decide) (by decide) (by decide) 0 (.int .i64 (bq : Nat))).stay (row_put (rQ0 rfl) 0 (.int .i64 (bq : Nat))) (by decide) (by decide) (by decide) (by decide) 1 (.int .i64 (N : Nat))).stay (row_put (row_put (rQ0 rfl) 0 (.int .i64 (bq : Nat))) 1 (.int .i64 (N : Nat))) (by decide) (by decide) (by decide) (by decide) 2 (.slice f2 n2 k2)).stay (row_put (row_put (row_put (rQ0 rfl) 0 (.int .i64 (bq : Nat))) 1 (.int .i64 (N : Nat))) 2 (.slice f2 n2 k2)) (by decide) (by decide) (by decide) (by decide) 3 (.int .u16 (av : Nat))).stay (row_put (row_put (row_put (row_put (rQ0 rfl) 0 (.int .i64 (bq : Nat))) 1 (.int .i64 (N : Nat))) 2 (.slice f2 n2 k2)) 3 (.int .u16 (av : Nat))) (by decide) (by decide) (by decide) (by decide) 4 (.int .u16 (la : Nat))).stay (row_put (row_put (row_put (row_put (row_put (rQ0 rfl) 0 (.int .i64 (bq : Nat))) 1 (.int .i64 (N : Nat))) 2 (.slice f2 n2 k2)) 3 (.int .u16 (av : Nat))) 4 (.int .u16 (la : Nat))) (by decide) (by decide) (by decide) (by decide) 5 (.slice c2 m2 j2)), (fun e => by obtain ⟨y0, y1, h1, h2⟩ := gS e; exact ⟨y0, y1, h1, ((((((h2.stay (rQ0 rfl) (by decide) 0 (.int .i64 (bq : Nat))).stay (row_put (rQ0 rfl) 0 (.int .i64 (bq : Nat))) (by decide) 1 (.int .i64 (N : Nat))).stay (row_put (row_put (rQ0 rfl) 0 (.int .i64 (bq : Nat))) 1 (.int .i64 (N : Nat))) (by decide) 2 (.slice f2 n2 k2)).stay (row_put (row_put (row_put (rQ0 rfl) 0 (.int .i64 (bq : Nat))) 1 (.int .i64 (N : Nat))) 2 (.slice f2 n2 k2)) (by decide) 3 (.int .u16 (av : Nat))).stay (row_put (row_put (row_put (row_put (rQ0 rfl) 0 (.int .i64 (bq : Nat))) 1 (.int .i64 (N : Nat))) 2 (.slice f2 n2 k2)) 3 (.int .u16 (av : Nat))) (by decide) 4 (.int .u16 (la : Nat))).stay (row_put (row_put (row_put (row_put (row_put (rQ0 rfl) 0 (.int .i64 (bq : Nat))) 1 (.int .i64 (N : Nat))) 2 (.slice f2 n2 k2)) 3 (.int .u16 (av : Nat))) 4 (.int .u16 (la : Nat))) (by decide) 5 (.slice c2 m2 j2))⟩), (fun e => by obtain ⟨y0, y1, h1, h2⟩ := gA e; exact ⟨y0, y1, six_far h1 (blocks_ne h1 (rQ0 rfl) (by decide)) _ _ _ _ _ _, six_owns h2 (rQ0 rfl) (by decide) _ _ _ _ _ _⟩)⟩
  · obtain ⟨rfl, e8⟩ : b9 = false ∧ b8 = true := by revert hp; cases b9 <;> cases b8 <;> simp
    clear hp
    refine inv_op (o := ⟨some 8, _, _, _, _, _⟩) rfl (fun K' hK' => ?_)
    go_simp
    exact hK'.out _ _ ⟨.mk .., rfl, rfl, Nxt (Nxt (Nx4 (Upd (fun _ => rfl)))) HI.out⟩
  · obtain ⟨rfl, e6, e9⟩ : b10 = false ∧ b6 = true ∧ b9 = true := by revert hp; cases b10 <;> cases b6 <;> cases b9 <;> simp
    clear hp
    obtain rfl := (HI.out.2.2.2.2.2.1) e6
    refine inv_op (o := ⟨some 9, _, _, _, _, _⟩) rfl (fun K' hK' => ?_)
    go_simp
    exact hK'.out _ _ ⟨.mk .., rfl, rfl, Nxt (Nxt (Nxt (Nx4 (Upd (fun _ => rfl))))) HI.out⟩
 case hdone =>
  rintro ⟨b0, b1, b2, b3, b4, b5, b6, b7, b8, b9, b10, s26, s27, s28, s29, s30, s31, s32, s8, s9⟩ W hI hall
  dsimp only at hI hall ⊢
  have HI := Lib.hid hI
  clear hI
  obtain rfl : b0 = true := hall 0 (by decide)
  obtain rfl : b1 = true := hall 1 (by decide)
  obtain rfl : b2 = true := hall 2 (by decide)
  obtain rfl : b3 = true := hall 3 (by decide)
  obtain rfl : b4 = true := hall 4 (by decide)
  obtain rfl : b5 = true := hall 5 (by decide)
  obtain rfl : b6 = true := hall 6 (by decide)
  obtain rfl : b7 = true := hall 7 (by decide)
  obtain rfl : b8 = true := hall 8 (by decide)
  obtain rfl : b9 = true := hall 9 (by decide)
  obtain rfl : b10 = true := hall 10 (by decide)
  obtain rfl := (HI.out.2.2.2.2.2.2.1) rfl
  obtain rfl := (HI.out.2.2.2.2.2.2.2.1) rfl
  have gA := HI.out.2.2.2.2.2.2.2.2.2.2.2.2.2.2.2.2.2.2
  have rQ1 := HI.out.2.2.2.2.2.2.2.2.2.2.2.2.2.2.1
  have gB := HI.out.2.2.2.2.2.2.2.2.2.2.2.2.2.2.2.1
  have gW := HI.out.2.2.2.2.2.2.2.2.2.2.2.2.2.2.2.2.1
  clear HI hall
  obtain ⟨ra, rc, hA, hm⟩ := gA rfl
  obtain ⟨⟨r0, r1, r2, r3, r4, r5⟩, _⟩ := cells_six (rQ1 rfl)
  obtain ⟨r6, _⟩ := one_cell hA
  have HB9 := Lib.hid gB
  have HW9 := Lib.hid gW
  have HM9 := Lib.hid hm
  clear gA hA hm rQ1 gB gW
  go_wp2
  refine bodyPost_ret (v := .tuple #[.agg #[.slice ra L rc], .agg #[.int .i64 (bq : Nat), .int .i64 (N : Nat), (.slice f2 n2 k2), .int .u16 (av : Nat), .int .u16 (la : Nat), (.slice c2 m2 j2)], .int .i64 0, .int .i64 4]) (by simp [results, Tryz.results9, go_sem, r0, r1, r2, r3, r4, r5, r6]) rfl ⟨ra, rc, _, _, E, rfl, HM9.out, HW9.out.isq.base (Nat.zero_le _), HB9.out⟩
end Go.Proofs.YtnmekbbnglkmcaaGreat
namespace Go.Proofs.YtnmekbbnglkmcaaGreat
open Go.RowKit Go.Lib
theorem Spare.new {w w' : World} {B g : Nat} {T : Nat → Bool} (h : Spare w w' B T) (hg : w.heap.size ≤ g) (hB : B ≤ w.heap.size) (i : Nat) (u : Value) : Spare w (w'.setCell ⟨g, i, none⟩ u) B T :=
 ⟨(h.below).setCell (p := ⟨g, i, none⟩) (Nat.le_trans hB hg) _, fun k ds s fs hk hs => one_other (h.row k ds s fs hk hs) _ _ (fun e => by
  have e : g = k := e
  subst e
  have := (Array.getElem?_eq_some_iff.1 hk).1
  omega)⟩
def usedI (l : List UInt8) (B N : Nat) : Nat := numAt l (B + secN N + 2) 2
def usedE (l : List UInt8) (B N k o : Nat) : Nat := numAt l (B + secN N + 4 + 8 * (k % N) + o) 4
def aheadQ (l : List UInt8) (B N : Nat) (q : QQ) : Nat := (usedI l B N + 65536 - q.last) % 65536
def SeenSpec (l : List UInt8) (B N : Nat) (q : QQ) (t x0 x1 : Nat) (E : Int) : Prop :=
 (aheadQ l B N q = 0 ∧ t = q.last ∧ x0 = 0 ∧ x1 = 0 ∧ E = 7) ∨ (q.chains.length < aheadQ l B N q ∧ t = usedI l B N ∧ x0 = 0 ∧ x1 = 0 ∧ E = 80) ∨
 (0 < aheadQ l B N q ∧ aheadQ l B N q ≤ q.chains.length ∧ t = (q.last + 1) % 65536 ∧ x0 = usedE l B N q.last 0 ∧ x1 = usedE l B N q.last 4 ∧ E = 0)
theorem WorkB.as {B g : Nat} {w : World} {q q' : QQ} {F C M : Value} {D : List Value} {l : List UInt8} (h : WorkB B w g q F C M D l) (e : q' = q) : WorkB B w g q' F C M D l := by rw [e]; exact h
structure QueSeeA where
 (b0 b1 b2 b3 b4 b5 b6 b7 b8 b9 b10 b11 b12 b13 b14 b15 b16 b17 b18 b19 : Bool)
 (s10 s11 s12 s13 s14 s15 s16 s17 s18 s19 s20 s21 s22 s23 s24 s9 s25 s26 s4 s5 : Value)
structure QueSeeB where
 (b0 b1 b2 b3 b4 b5 b6 b7 b8 b9 b10 b11 b12 b13 b14 b15 b16 b17 b18 b19 b20 b21 b22 b23 b24 b25 : Bool)
 (s53 s54 s55 s56 s57 s58 s59 s60 s61 s62 s63 s64 s65 s66 s67 s68 s69 s70 s71 s72 s52 s73 s74 s7 s8 : Value)
set_option maxHeartbeats 4000000 in
set_option maxRecDepth 100000 in
theorem seeUsed_any (B g N bq t x0 x1 : Nat) (q : QQ) (F C M : Value) (D : List Value) (l : List UInt8) (E : Int) (w : World) (hw : WorkB B w g q F C M D l) (hg : GoodQ q N) (hbq : q.base = (bq : Nat)) (hok : RingOk l.length bq N) (hs : SeenSpec l bq N q t x0 x1 E) (hB : B ≤ w.heap.size) :
 Calls Tryz.prog 36 #[.pointer (some ⟨g, 0, none⟩)] w fun e w' => e = .returned (.tuple #[.agg #[.int .u32 (x0 : Nat), .int .u32 (x1 : Nat)], .int .i64 E]) ∧ WorkB B w' g { q with last := t } F C M D l ∧ Spare w w' B dirtyW := by
 obtain ⟨few1, few2, few3, few4, few5⟩ := hg.few
 obtain ⟨fa, fn, fc, ca, cn, cc, rfl, rfl, hfn, hcn, k1, k2, k3, k4⟩ := hw.isq.shape
 have hzN := hg.size
 have hla := hg.la
 obtain ⟨b, z, fr, av, la, ch⟩ := q
 simp only [SeenSpec, aheadQ] at *
 subst hbq
 subst hzN
 obtain ⟨va, vc, rfl, hv1, hv2⟩ := hw.mem.shape
 obtain ⟨L, hL⟩ : ∃ L, L = l.length := ⟨_, rfl⟩
 rw [← hL] at hw ⊢
 obtain ⟨u, hu⟩ : ∃ u, usedI l bq N = u := ⟨_, rfl⟩
 rw [hu] at hs
 have hu16 : u < 65536 := by rw [← hu]; exact numAt_lt _ _ 2
 obtain ⟨a, ha⟩ : ∃ a, (u + 65536 - la) % 65536 = a := ⟨_, rfl⟩
 rw [ha] at hs
 have hw16 : IntKind.u16.wrap (((u : Nat) : Int) - ((la : Nat) : Int)) = (a : Nat) := by simp [IntKind.wrap, IntKind.bits, IntKind.signed]; omega
 have hwa : IntKind.i64.wrap ((a : Nat) : Int) = (a : Nat) := IntWalk.i64_in _ (by omega)
 have HUF := Lib.hid (ringF_ok hok)
 have HUX := Lib.hid ((usedX_ok hok).trans hu)
 have HMX := Lib.hid (show l.length ≤ maxLen by have := hok.few; unfold maxLen; omega)
 have HOK := Lib.hid hok
 have HLA := Lib.hid hla
 rw [← hcn] at hs
 have hcn16 : cn ≤ 16 := by omega
 have hbx : Below w.heap.size w (w.alloc (.cells #[.int .u32 0, .int .u32 0] 53)) := (Below.refl _ _).alloc (Nat.le_refl _) _
 have HB0 := Lib.hid hbx
 have HW0 := Lib.hid (hw.below hbx)
 have HR0 := Lib.hid (heap_alloc_new w (.cells #[.int .u32 0, .int .u32 0] 53))
 have HBB := Lib.hid hB
 have HSP := Lib.hid hs
 have HU := Lib.hid hu
 clear hw hg hok hla few1 few2 few3 few4 few5 hfn hcn k1 k2 k3 k4 hv1 hv2 hL hu hu16 ha hbx hB hs
 go_enter Tryz.func36, Tryz.ntmps36
 go_wp2_with fail
 refine wp_region_rec (X := QueSeeA) (by kernel_rfl) (by kernel_rfl) (fun x => #[x.b0, x.b1, x.b2, x.b3, x.b4, x.b5, x.b6, x.b7, x.b8, x.b9, x.b10, x.b11, x.b12, x.b13, x.b14, x.b15, x.b16, x.b17, x.b18, x.b19]) (fun x => { tmps := List.toArray ((.pointer (some ⟨g, 0, none⟩)) :: undef :: (.pointer (some ⟨w.heap.size, 0, none⟩)) :: (.int .i64 0) :: x.s4 :: x.s5 :: undef :: undef :: undef :: x.s9 :: x.s10 :: x.s11 :: x.s12 :: x.s13 :: x.s14 :: x.s15 :: x.s16 :: x.s17 :: x.s18 :: x.s19 :: x.s20 :: x.s21 :: x.s22 :: x.s23 :: x.s24 :: x.s25 :: x.s26 :: undef :: undef :: undef :: undef :: undef :: undef :: undef :: undef :: undef :: undef :: undef :: undef :: undef :: undef :: undef :: undef :: undef :: undef :: undef :: undef :: undef :: undef :: undef :: undef :: undef :: undef :: undef :: undef :: undef :: undef :: undef :: undef :: undef :: undef :: undef :: undef :: undef :: undef :: undef :: undef :: undef :: undef :: undef :: undef :: undef :: undef :: undef :: undef :: undef :: undef :: undef :: undef :: undef :: undef :: undef :: undef :: undef :: undef :: []), defers := [] }) (fun x W => (x.b0 = true → x.s10 = .pointer (some ⟨g, 0, none⟩)) ∧ (x.b1 = true → x.s11 = .pointer (some ⟨g, 0, none⟩)) ∧ (x.b2 = true → x.s12 = .pointer (some ⟨g, 6, none⟩)) ∧ (x.b3 = true → x.s13 = .agg #[.slice va L vc]) ∧ (x.b4 = true → x.s14 = .pointer (some ⟨g, 0, none⟩)) ∧ (x.b5 = true → x.s15 = .pointer (some ⟨g, 0, none⟩)) ∧ (x.b6 = true → x.s16 = .pointer (some ⟨g, 0, none⟩)) ∧ (x.b7 = true → x.s17 = .pointer (some ⟨g, 0, none⟩)) ∧ (x.b8 = true → x.s18 = .int .i64 (bq : Nat)) ∧ (x.b9 = true → x.s19 = .pointer (some ⟨g, 0, none⟩)) ∧ (x.b10 = true → x.s20 = .pointer (some ⟨g, 0, none⟩)) ∧ (x.b11 = true → x.s21 = .pointer (some ⟨g, 0, none⟩)) ∧ (x.b12 = true → x.s22 = .pointer (some ⟨g, 1, none⟩)) ∧ (x.b13 = true → x.s23 = .int .i64 (N : Nat)) ∧ (x.b14 = true → x.s24 = .tuple #[.int .u16 (u : Nat), .int .i64 0]) ∧ (x.b15 = true → x.s9 = .tuple #[.int .u16 (u : Nat), .int .i64 0]) ∧ (x.b16 = true → x.s25 = .int .u16 (u : Nat)) ∧ (x.b17 = true → x.s26 = .int .i64 0) ∧ (x.b18 = true → x.s4 = .int .u16 (u : Nat)) ∧ (x.b19 = true → x.s5 = .int .i64 0) ∧ (W.heap[g]? = some (.cells #[.int .i64 (bq : Nat), .int .i64 (N : Nat), .slice fa fn fc, .int .u16 (av : Nat), .int .u16 (la : Nat), .slice ca cn cc, .slice va L vc] 74 (0, 0))) ∧ (Below (w.alloc (.cells #[.int .u32 0, .int .u32 0] 53)).heap.size (w.alloc (.cells #[.int .u32 0, .int .u32 0] 53)) W)) ⟨false, false, false, false, false, false, false, false, false, false, false, false, false, false, false, false, false, false, false, false, undef, undef, undef, undef, undef, undef, undef, undef, undef, undef, undef, undef, undef, undef, undef, undef, undef, undef, undef, undef⟩ rfl rfl ⟨(fun h => by cases h), (fun h => by cases h), (fun h => by cases h), (fun h => by cases h), (fun h => by cases h), (fun h => by cases h), (fun h => by cases h), (fun h => by cases h), (fun h => by cases h), (fun h => by cases h), (fun h => by cases h), (fun h => by cases h), (fun h => by cases h), (fun h => by cases h), (fun h => by cases h), (fun h => by cases h), (fun h => by cases h), (fun h => by cases h), (fun h => by cases h), (fun h => by cases h), HW0.out.row, (Below.refl _ _).drew⟩ (fun _ => rfl) ?hstep ?hdone
 case hstep =>
  rintro ⟨b0, b1, b2, b3, b4, b5, b6, b7, b8, b9, b10, b11, b12, b13, b14, b15, b16, b17, b18, b19, s10, s11, s12, s13, s14, s15, s16, s17, s18, s19, s20, s21, s22, s23, s24, s9, s25, s26, s4, s5⟩ W hI i hi
  dsimp only at hI hi ⊢
  have HI := Lib.hid hI
  clear hI
  rw [Region.ready, List.mem_filter, List.mem_range] at hi
  obtain ⟨hlt, hp⟩ := hi
  have hi7 : i = 0 ∨ i = 1 ∨ i = 2 ∨ i = 3 ∨ i = 4 ∨ i = 5 ∨ i = 6 ∨ i = 7 ∨ i = 8 ∨ i = 9 ∨ i = 10 ∨ i = 11 ∨ i = 12 ∨ i = 13 ∨ i = 14 ∨ i = 15 ∨ i = 16 ∨ i = 17 ∨ i = 18 ∨ i = 19 := by simp at hlt; omega
  clear hlt
  rcases hi7 with rfl | rfl | rfl | rfl | rfl | rfl | rfl | rfl | rfl | rfl | rfl | rfl | rfl | rfl | rfl | rfl | rfl | rfl | rfl | rfl
  all_goals simp [Region.binds] at hp
  · obtain rfl : b0 = false := by revert hp; cases b0 <;> simp
    clear hp
    refine inv_op (o := ⟨some 10, _, _, _, _, _⟩) rfl (fun K' hK' => ?_)
    go_simp
    exact hK'.out _ _ ⟨.mk .., rfl, rfl, (Upd (fun _ => rfl)) HI.out⟩
  · obtain ⟨rfl, e0⟩ : b1 = false ∧ b0 = true := by revert hp; cases b1 <;> cases b0 <;> simp
    clear hp
    obtain rfl := (HI.out.1) e0
    refine inv_op (o := ⟨some 11, _, _, _, _, _⟩) rfl (fun K' hK' => ?_)
    go_simp
    exact hK'.out _ _ ⟨.mk .., rfl, rfl, Nxt (Upd (fun _ => rfl)) HI.out⟩
  · obtain ⟨rfl, e1⟩ : b2 = false ∧ b1 = true := by revert hp; cases b2 <;> cases b1 <;> simp
    clear hp
    obtain rfl := (HI.out.2.1) e1
    refine inv_op (o := ⟨some 12, _, _, _, _, _⟩) rfl (fun K' hK' => ?_)
    go_simp
    exact hK'.out _ _ ⟨.mk .., rfl, rfl, Nxt (Nxt (Upd (fun _ => rfl))) HI.out⟩
  · obtain ⟨rfl, e2⟩ : b3 = false ∧ b2 = true := by revert hp; cases b3 <;> cases b2 <;> simp
    clear hp
    obtain rfl := (HI.out.2.2.1) e2
    refine inv_op (o := ⟨some 13, _, _, _, _, _⟩) rfl (fun K' hK' => ?_)
    have rW := HI.out.2.2.2.2.2.2.2.2.2.2.2.2.2.2.2.2.2.2.2.2.1
    obtain ⟨hc6, _⟩ := at_cell rW 6 _ rfl
    go_simp
    exact hK'.out _ _ ⟨.mk .., rfl, rfl, Nxt (Nxt (Nxt (Upd (fun _ => rfl)))) HI.out⟩
  · obtain rfl : b4 = false := by revert hp; cases b4 <;> simp
    clear hp
    refine inv_op (o := ⟨some 14, _, _, _, _, _⟩) rfl (fun K' hK' => ?_)
    go_simp
    exact hK'.out _ _ ⟨.mk .., rfl, rfl, Nx4 (Upd (fun _ => rfl)) HI.out⟩
  · obtain ⟨rfl, e4⟩ : b5 = false ∧ b4 = true := by revert hp; cases b5 <;> cases b4 <;> simp
    clear hp
    obtain rfl := (HI.out.2.2.2.2.1) e4
    refine inv_op (o := ⟨some 15, _, _, _, _, _⟩) rfl (fun K' hK' => ?_)
    go_simp
    exact hK'.out _ _ ⟨.mk .., rfl, rfl, Nxt (Nx4 (Upd (fun _ => rfl))) HI.out⟩
  · obtain ⟨rfl, e5⟩ : b6 = false ∧ b5 = true := by revert hp; cases b6 <;> cases b5 <;> simp
    clear hp
    obtain rfl := (HI.out.2.2.2.2.2.1) e5
    refine inv_op (o := ⟨some 16, _, _, _, _, _⟩) rfl (fun K' hK' => ?_)
    go_simp
    exact hK'.out _ _ ⟨.mk .., rfl, rfl, Nxt (Nxt (Nx4 (Upd (fun _ => rfl)))) HI.out⟩
  · obtain ⟨rfl, e6⟩ : b7 = false ∧ b6 = true := by revert hp; cases b7 <;> cases b6 <;> simp
    clear hp
    obtain rfl := (HI.out.2.2.2.2.2.2.1) e6
    refine inv_op (o := ⟨some 17, _, _, _, _, _⟩) rfl (fun K' hK' => ?_)
    go_simp
    exact hK'.out _ _ ⟨.mk .., rfl, rfl, Nxt (Nxt (Nxt (Nx4 (Upd (fun _ => rfl))))) HI.out⟩
  · obtain ⟨rfl, e7⟩ : b8 = false ∧ b7 = true := by revert hp; cases b8 <;> cases b7 <;> simp
    clear hp
    obtain rfl := (HI.out.2.2.2.2.2.2.2.1) e7
    refine inv_op (o := ⟨some 18, _, _, _, _, _⟩) rfl (fun K' hK' => ?_)
    have rW := HI.out.2.2.2.2.2.2.2.2.2.2.2.2.2.2.2.2.2.2.2.2.1
    obtain ⟨hc0, _⟩ := at_cell rW 0 _ rfl
    go_simp
    exact hK'.out _ _ ⟨.mk .., rfl, rfl, Nx4 (Nx4 (Upd (fun _ => rfl))) HI.out⟩
  · obtain rfl : b9 = false := by revert hp; cases b9 <;> simp
    clear hp
    refine inv_op (o := ⟨some 19, _, _, _, _, _⟩) rfl (fun K' hK' => ?_)
    go_simp
    exact hK'.out _ _ ⟨.mk .., rfl, rfl, Nxt (Nx4 (Nx4 (Upd (fun _ => rfl)))) HI.out⟩
  · obtain ⟨rfl, e9⟩ : b10 = false ∧ b9 = true := by revert hp; cases b10 <;> cases b9 <;> simp
    clear hp
    obtain rfl := (HI.out.2.2.2.2.2.2.2.2.2.1) e9
    refine inv_op (o := ⟨some 20, _, _, _, _, _⟩) rfl (fun K' hK' => ?_)
    go_simp
    exact hK'.out _ _ ⟨.mk .., rfl, rfl, Nxt (Nxt (Nx4 (Nx4 (Upd (fun _ => rfl))))) HI.out⟩
  · obtain ⟨rfl, e10⟩ : b11 = false ∧ b10 = true := by revert hp; cases b11 <;> cases b10 <;> simp
    clear hp
    obtain rfl := (HI.out.2.2.2.2.2.2.2.2.2.2.1) e10
    refine inv_op (o := ⟨some 21, _, _, _, _, _⟩) rfl (fun K' hK' => ?_)
    go_simp
    exact hK'.out _ _ ⟨.mk .., rfl, rfl, Nxt (Nxt (Nxt (Nx4 (Nx4 (Upd (fun _ => rfl)))))) HI.out⟩
  · obtain ⟨rfl, e11⟩ : b12 = false ∧ b11 = true := by revert hp; cases b12 <;> cases b11 <;> simp
    clear hp
    obtain rfl := (HI.out.2.2.2.2.2.2.2.2.2.2.2.1) e11
    refine inv_op (o := ⟨some 22, _, _, _, _, _⟩) rfl (fun K' hK' => ?_)
    go_simp
    exact hK'.out _ _ ⟨.mk .., rfl, rfl, Nx4 (Nx4 (Nx4 (Upd (fun _ => rfl)))) HI.out⟩
  · obtain ⟨rfl, e12⟩ : b13 = false ∧ b12 = true := by revert hp; cases b13 <;> cases b12 <;> simp
    clear hp
    obtain rfl := (HI.out.2.2.2.2.2.2.2.2.2.2.2.2.1) e12
    refine inv_op (o := ⟨some 23, _, _, _, _, _⟩) rfl (fun K' hK' => ?_)
    have rW := HI.out.2.2.2.2.2.2.2.2.2.2.2.2.2.2.2.2.2.2.2.2.1
    obtain ⟨hc1, _⟩ := at_cell rW 1 _ rfl
    go_simp
    exact hK'.out _ _ ⟨.mk .., rfl, rfl, Nxt (Nx4 (Nx4 (Nx4 (Upd (fun _ => rfl))))) HI.out⟩
  · have hn14 : b14 = false := by revert hp; cases b14 <;> simp
    have e3 : b3 = true := by revert hp; cases b3 <;> simp
    have e8 : b8 = true := by revert hp; cases b8 <;> simp
    have e13 : b13 = true := by revert hp; cases b13 <;> simp
    clear hp
    obtain rfl := (HI.out.2.2.2.1) e3
    obtain rfl := (HI.out.2.2.2.2.2.2.2.2.1) e8
    obtain rfl := (HI.out.2.2.2.2.2.2.2.2.2.2.2.2.2.1) e13
    subst hn14
    refine inv_op (o := ⟨some 24, _, _, _, _, _⟩) rfl (fun K' hK' => ?_)
    have gB := HI.out.2.2.2.2.2.2.2.2.2.2.2.2.2.2.2.2.2.2.2.2.2
    go_simp
    refine (used_any _ l (bq : Nat) (N : Nat) 0 u HUF.out HUX.out HMX.out W (HW0.out.below gB).mem.arg).mono ?_
    rintro e w2 ⟨rfl, bn⟩
    obtain ⟨h0, h1, h2, h3, h4, h5, h6, h7, h8, h9, h10, h11, h12, h13, h14, h15, h16, h17, h18, h19, rW, gB⟩ := HI.out
    exact hK'.out _ _ ⟨.mk .., rfl, rfl, h0, h1, h2, h3, h4, h5, h6, h7, h8, h9, h10, h11, h12, h13, (fun _ => rfl), h15, h16, h17, h18, h19, (row_keep rW bn), (gB.trans (bn.mono gB.size))⟩
  · obtain ⟨rfl, e14⟩ : b15 = false ∧ b14 = true := by revert hp; cases b15 <;> cases b14 <;> simp
    clear hp
    obtain rfl := (HI.out.2.2.2.2.2.2.2.2.2.2.2.2.2.2.1) e14
    refine inv_op (o := ⟨some 9, _, _, _, _, _⟩) rfl (fun K' hK' => ?_)
    go_simp
    exact hK'.out _ _ ⟨.mk .., rfl, rfl, Nxt (Nxt (Nxt (Nx4 (Nx4 (Nx4 (Upd (fun _ => rfl))))))) HI.out⟩
  · obtain ⟨rfl, e15⟩ : b16 = false ∧ b15 = true := by revert hp; cases b16 <;> cases b15 <;> simp
    clear hp
    obtain rfl := (HI.out.2.2.2.2.2.2.2.2.2.2.2.2.2.2.2.1) e15
    refine inv_op (o := ⟨some 25, _, _, _, _, _⟩) rfl (fun K' hK' => ?_)
    go_simp
    exact hK'.out _ _ ⟨.mk .., rfl, rfl, Nx16 (Upd (fun _ => rfl)) HI.out⟩
  · obtain ⟨rfl, e15⟩ : b17 = false ∧ b15 = true := by revert hp; cases b17 <;> cases b15 <;> simp
    clear hp
    obtain rfl := (HI.out.2.2.2.2.2.2.2.2.2.2.2.2.2.2.2.1) e15
    refine inv_op (o := ⟨some 26, _, _, _, _, _⟩) rfl (fun K' hK' => ?_)
    go_simp
    exact hK'.out _ _ ⟨.mk .., rfl, rfl, Nxt (Nx16 (Upd (fun _ => rfl))) HI.out⟩
  · obtain ⟨rfl, e16, e14⟩ : b18 = false ∧ b16 = true ∧ b14 = true := by revert hp; cases b18 <;> cases b16 <;> cases b14 <;> simp
    clear hp
    obtain rfl := (HI.out.2.2.2.2.2.2.2.2.2.2.2.2.2.2.2.2.1) e16
    refine inv_op (o := ⟨some 4, _, _, _, _, _⟩) rfl (fun K' hK' => ?_)
    go_simp
    exact hK'.out _ _ ⟨.mk .., rfl, rfl, Nxt (Nxt (Nx16 (Upd (fun _ => rfl)))) HI.out⟩
  · obtain ⟨rfl, e17, e18⟩ : b19 = false ∧ b17 = true ∧ b18 = true := by revert hp; cases b19 <;> cases b17 <;> cases b18 <;> simp
    clear hp
    obtain rfl := (HI.out.2.2.2.2.2.2.2.2.2.2.2.2.2.2.2.2.2.1) e17
    refine inv_op (o := ⟨some 5, _, _, _, _, _⟩) rfl (fun K' hK' => ?_)
    go_simp
    exact hK'.out _ _ ⟨.mk .., rfl, rfl, Nxt (Nxt (Nxt (Nx16 (Upd (fun _ => rfl))))) HI.out⟩
 case hdone =>
  rintro ⟨b0, b1, b2, b3, b4, b5, b6, b7, b8, b9, b10, b11, b12, b13, b14, b15, b16, b17, b18, b19, s10, s11, s12, s13, s14, s15, s16, s17, s18, s19, s20, s21, s22, s23, s24, s9, s25, s26, s4, s5⟩ W hI hall
  dsimp only at hI hall ⊢
  have HI := Lib.hid hI
  clear hI
  obtain rfl : b0 = true := hall 0 (by decide)
  obtain rfl : b1 = true := hall 1 (by decide)
  obtain rfl : b2 = true := hall 2 (by decide)
  obtain rfl : b3 = true := hall 3 (by decide)
  obtain rfl : b4 = true := hall 4 (by decide)
  obtain rfl : b5 = true := hall 5 (by decide)
  obtain rfl : b6 = true := hall 6 (by decide)
  obtain rfl : b7 = true := hall 7 (by decide)
  obtain rfl : b8 = true := hall 8 (by decide)
  obtain rfl : b9 = true := hall 9 (by decide)
  obtain rfl : b10 = true := hall 10 (by decide)
  obtain rfl : b11 = true := hall 11 (by decide)
  obtain rfl : b12 = true := hall 12 (by decide)
  obtain rfl : b13 = true := hall 13 (by decide)
  obtain rfl : b14 = true := hall 14 (by decide)
  obtain rfl : b15 = true := hall 15 (by decide)
  obtain rfl : b16 = true := hall 16 (by decide)
  obtain rfl : b17 = true := hall 17 (by decide)
  obtain rfl : b18 = true := hall 18 (by decide)
  obtain rfl : b19 = true := hall 19 (by decide)
  obtain rfl := (HI.out.2.2.2.2.2.2.2.2.2.2.2.2.2.2.2.2.2.2.1) rfl
  obtain rfl := (HI.out.2.2.2.2.2.2.2.2.2.2.2.2.2.2.2.2.2.2.2.1) rfl
  have gB := HI.out.2.2.2.2.2.2.2.2.2.2.2.2.2.2.2.2.2.2.2.2.2
  clear HI hall
  have HW1 := Lib.hid (HW0.out.below gB)
  have HR1 := Lib.hid (row_keep HR0.out gB)
  have HB1 := Lib.hid (HB0.out.trans (gB.mono HB0.out.size))
  clear gB HW0 HR0
  obtain ⟨w1, hw1⟩ : ∃ x, x = W := ⟨_, rfl⟩
  subst hw1
  obtain ⟨⟨l0, l1, l2, l3, l4, l5, l6⟩, z0, z1, z2, z3, z4, z5, z6⟩ := cells_seven HW1.out.row
  obtain ⟨r0, r1, y0, y1⟩ := cells_two HR1.out
  have hlg := (Array.getElem?_eq_some_iff.1 HW1.out.row).1
  have hlr := (Array.getElem?_eq_some_iff.1 HR1.out).1
  have hsp := HSP.out
  rcases hsp with ⟨e1, e2, e3, e4, e5⟩ | ⟨e1, e2, e3, e4, e5⟩ | ⟨e0, e1, e2, e3, e4, e5⟩
  · subst e1
    subst e2
    subst e3
    subst e4
    subst e5
    go_wp2
    refine bodyPost_ret (v := .tuple #[.agg #[.int .u32 0, .int .u32 0], .int .i64 7]) (by simp [results, Tryz.results36, go_sem, r0, r1]) rfl ⟨rfl, ?_, ?_⟩
    · exact (HW1.out.stay HR1.out (by decide) (by decide) (by decide) (by decide) 0 _).stay (row_put HR1.out 0 _) (by decide) (by decide) (by decide) (by decide) 1 _
    · exact Spare.of_below ((HB1.out.setCell (p := ⟨w.heap.size, 0, none⟩) (Nat.le_refl _) _).setCell (p := ⟨w.heap.size, 1, none⟩) (Nat.le_refl _) _) HBB.out _
  · have hz0 : (((a : Nat) : Int) == 0) = false := by rw [beq_eq_false_iff_ne]; omega
    have hz1 : (a == 0) = false := by rw [beq_eq_false_iff_ne]; omega
    have hz2 : decide (((cn : Nat) : Int) < ((a : Nat) : Int)) = true := decide_eq_true (by omega)
    have hz3 : decide (cn < a) = true := decide_eq_true e1
    subst e2
    subst e3
    subst e4
    subst e5
    have hne : g ≠ w.heap.size := blocks_ne HR1.out HW1.out.row (by decide)
    have HWX := Lib.hid (HW1.out.setL t)
    have HRX := Lib.hid (one_other HR1.out ⟨g, 4, none⟩ (.int .u16 (t : Nat)) hne)
    have HSX := Lib.hid ((Spare.of_below (T := dirtyW) HB1.out HBB.out).trans (Spare.set (i := 4) (u := .int .u16 (t : Nat)) HW1.out.row rfl HW1.out.lo))
    obtain ⟨r0x, r1x, y0x, y1x⟩ := cells_two HRX.out
    have HUU := HU.out
    clear e1
    go_wp2
    refine bodyPost_ret (v := .tuple #[.agg #[.int .u32 0, .int .u32 0], .int .i64 80]) (by simp [results, Tryz.results36, go_sem, r0x, r1x]) rfl ⟨rfl, ?_, ?_⟩
    · exact (HWX.out.stay HRX.out (by decide) (by decide) (by decide) (by decide) 0 _).stay (row_put HRX.out 0 _) (by decide) (by decide) (by decide) (by decide) 1 _
    · exact (HSX.out.new (Nat.le_refl _) HBB.out 0 _).new (Nat.le_refl _) HBB.out 1 _
  · have hz0 : (((a : Nat) : Int) == 0) = false := by rw [beq_eq_false_iff_ne]; omega
    have hz1 : (a == 0) = false := by rw [beq_eq_false_iff_ne]; omega
    have hz2 : decide (((cn : Nat) : Int) < ((a : Nat) : Int)) = false := decide_eq_false (by omega)
    have hz3 : decide (cn < a) = false := decide_eq_false (by omega)
    have HX0 := Lib.hid ((usedAtX_ok HOK.out la 0).trans e3.symm)
    have HX1 := Lib.hid ((usedAtX_ok HOK.out la 4).trans e4.symm)
    have hw17 : IntKind.u16.wrap (((la : Nat) : Int) + 1) = (t : Nat) := by rw [e2]; simp [IntKind.wrap, IntKind.bits, IntKind.signed]
    subst e5
    clear e0 e1 e2 e3 e4
    go_wp2_with fail
    refine wp_region_rec (X := QueSeeB) (by kernel_rfl) (by kernel_rfl) (fun x => #[x.b0, x.b1, x.b2, x.b3, x.b4, x.b5, x.b6, x.b7, x.b8, x.b9, x.b10, x.b11, x.b12, x.b13, x.b14, x.b15, x.b16, x.b17, x.b18, x.b19, x.b20, x.b21, x.b22, x.b23, x.b24, x.b25]) (fun x => { tmps := List.toArray ((.pointer (some ⟨g, 0, none⟩)) :: undef :: (.pointer (some ⟨w.heap.size, 0, none⟩)) :: (.int .i64 0) :: (.int .u16 (u : Nat)) :: (.int .i64 0) :: (.int .u16 (a : Nat)) :: x.s7 :: x.s8 :: s9 :: s10 :: s11 :: s12 :: s13 :: s14 :: s15 :: s16 :: s17 :: s18 :: s19 :: s20 :: s21 :: s22 :: s23 :: s24 :: s25 :: s26 :: (.int .u16 (u : Nat)) :: (.pointer (some ⟨g, 0, none⟩)) :: (.pointer (some ⟨g, 0, none⟩)) :: (.pointer (some ⟨g, 0, none⟩)) :: (.pointer (some ⟨g, 4, none⟩)) :: (.int .u16 (la : Nat)) :: (.int .u16 (a : Nat)) :: (.int .u16 (a : Nat)) :: (.bool false) :: undef :: (.int .u16 (a : Nat)) :: (.int .i64 (a : Nat)) :: (.pointer (some ⟨g, 0, none⟩)) :: (.pointer (some ⟨g, 0, none⟩)) :: (.pointer (some ⟨g, 0, none⟩)) :: (.pointer (some ⟨g, 5, none⟩)) :: (.slice ca cn cc) :: (.int .i64 (cn : Nat)) :: (.bool false) :: undef :: undef :: undef :: undef :: undef :: undef :: x.s52 :: x.s53 :: x.s54 :: x.s55 :: x.s56 :: x.s57 :: x.s58 :: x.s59 :: x.s60 :: x.s61 :: x.s62 :: x.s63 :: x.s64 :: x.s65 :: x.s66 :: x.s67 :: x.s68 :: x.s69 :: x.s70 :: x.s71 :: x.s72 :: x.s73 :: x.s74 :: undef :: undef :: undef :: undef :: undef :: undef :: undef :: undef :: undef :: undef :: []), defers := [] }) (fun x W => (x.b0 = true → x.s53 = .pointer (some ⟨g, 0, none⟩)) ∧ (x.b1 = true → x.s54 = .pointer (some ⟨g, 0, none⟩)) ∧ (x.b2 = true → x.s55 = .pointer (some ⟨g, 6, none⟩)) ∧ (x.b3 = true → x.s56 = .agg #[.slice va L vc]) ∧ (x.b4 = true → x.s57 = .pointer (some ⟨g, 0, none⟩)) ∧ (x.b5 = true → x.s58 = .pointer (some ⟨g, 0, none⟩)) ∧ (x.b6 = true → x.s59 = .pointer (some ⟨g, 0, none⟩)) ∧ (x.b7 = true → x.s60 = .pointer (some ⟨g, 0, none⟩)) ∧ (x.b8 = true → x.s61 = .int .i64 (bq : Nat)) ∧ (x.b9 = true → x.s62 = .pointer (some ⟨g, 0, none⟩)) ∧ (x.b10 = true → x.s63 = .pointer (some ⟨g, 0, none⟩)) ∧ (x.b11 = true → x.s64 = .pointer (some ⟨g, 0, none⟩)) ∧ (x.b12 = true → x.s65 = .pointer (some ⟨g, 1, none⟩)) ∧ (x.b13 = true → x.s66 = .int .i64 (N : Nat)) ∧ (x.b14 = true → x.s67 = .pointer (some ⟨g, 0, none⟩)) ∧ (x.b15 = true → x.s68 = .pointer (some ⟨g, 0, none⟩)) ∧ (x.b16 = true → x.s69 = .pointer (some ⟨g, 0, none⟩)) ∧ (x.b17 = true → x.s70 = .pointer (some ⟨g, 4, none⟩)) ∧ (x.b18 = true → x.s71 = .int .u16 (la : Nat)) ∧ (x.b19 = true → x.s72 = .tuple #[.agg #[.int .u32 (x0 : Nat), .int .u32 (x1 : Nat)], .int .i64 0]) ∧ (x.b20 = true → x.s52 = .tuple #[.agg #[.int .u32 (x0 : Nat), .int .u32 (x1 : Nat)], .int .i64 0]) ∧ (x.b21 = true → x.s73 = .agg #[.int .u32 (x0 : Nat), .int .u32 (x1 : Nat)]) ∧ (x.b22 = true → x.s74 = .int .i64 0) ∧ (x.b25 = true → x.s8 = .int .i64 0) ∧ (x.b24 = true → x.b19 = true ∧ x.b23 = true) ∧ (W.heap[g]? = some (.cells #[.int .i64 (bq : Nat), .int .i64 (N : Nat), .slice fa fn fc, .int .u16 (av : Nat), .int .u16 (la : Nat), .slice ca cn cc, .slice va L vc] 74 (0, 0))) ∧ (Below w1.heap.size w1 W) ∧ (x.b24 = false → x.b23 = true → ∃ gu, x.s7 = .pointer (some ⟨gu, 0, none⟩) ∧ w1.heap.size ≤ gu ∧ W.heap[gu]? = some (.cells #[.int .u32 0, .int .u32 0] 53 (0, 0))) ∧ (x.b24 = true → ∃ gu, x.s7 = .pointer (some ⟨gu, 0, none⟩) ∧ w1.heap.size ≤ gu ∧ W.heap[gu]? = some (.cells #[.int .u32 (x0 : Nat), .int .u32 (x1 : Nat)] 53 (0, 0)))) ⟨false, false, false, false, false, false, false, false, false, false, false, false, false, false, false, false, false, false, false, false, false, false, false, false, false, false, undef, undef, undef, undef, undef, undef, undef, undef, undef, undef, undef, undef, undef, undef, undef, undef, undef, undef, undef, undef, undef, undef, undef, undef, undef⟩ rfl rfl ⟨(fun h => by cases h), (fun h => by cases h), (fun h => by cases h), (fun h => by cases h), (fun h => by cases h), (fun h => by cases h), (fun h => by cases h), (fun h => by cases h), (fun h => by cases h), (fun h => by cases h), (fun h => by cases h), (fun h => by cases h), (fun h => by cases h), (fun h => by cases h), (fun h => by cases h), (fun h => by cases h), (fun h => by cases h), (fun h => by cases h), (fun h => by cases h), (fun h => by cases h), (fun h => by cases h), (fun h => by cases h), (fun h => by cases h), (fun h => by cases h), (fun h => by cases h), HW1.out.row, (Below.refl _ _).drew, (fun _ h => by cases h), (fun h => by cases h)⟩ (fun _ => rfl) ?hstep ?hdone
    case hstep =>
     rintro ⟨b0, b1, b2, b3, b4, b5, b6, b7, b8, b9, b10, b11, b12, b13, b14, b15, b16, b17, b18, b19, b20, b21, b22, b23, b24, b25, s53, s54, s55, s56, s57, s58, s59, s60, s61, s62, s63, s64, s65, s66, s67, s68, s69, s70, s71, s72, s52, s73, s74, s7, s8⟩ W hI i hi
     dsimp only at hI hi ⊢
     have HI := Lib.hid hI
     clear hI
     rw [Region.ready, List.mem_filter, List.mem_range] at hi
     obtain ⟨hlt, hp⟩ := hi
     have hi7 : i = 0 ∨ i = 1 ∨ i = 2 ∨ i = 3 ∨ i = 4 ∨ i = 5 ∨ i = 6 ∨ i = 7 ∨ i = 8 ∨ i = 9 ∨ i = 10 ∨ i = 11 ∨ i = 12 ∨ i = 13 ∨ i = 14 ∨ i = 15 ∨ i = 16 ∨ i = 17 ∨ i = 18 ∨ i = 19 ∨ i = 20 ∨ i = 21 ∨ i = 22 ∨ i = 23 ∨ i = 24 ∨ i = 25 := by simp at hlt; omega
     clear hlt
     rcases hi7 with rfl | rfl | rfl | rfl | rfl | rfl | rfl | rfl | rfl | rfl | rfl | rfl | rfl | rfl | rfl | rfl | rfl | rfl | rfl | rfl | rfl | rfl | rfl | rfl | rfl | rfl
     all_goals simp [Region.binds] at hp
     · obtain rfl : b0 = false := by revert hp; cases b0 <;> simp
       clear hp
       refine inv_op (o := ⟨some 53, _, _, _, _, _⟩) rfl (fun K' hK' => ?_)
       go_simp
       exact hK'.out _ _ ⟨.mk .., rfl, rfl, (Upd (fun _ => rfl)) HI.out⟩
     · obtain ⟨rfl, e0⟩ : b1 = false ∧ b0 = true := by revert hp; cases b1 <;> cases b0 <;> simp
       clear hp
       obtain rfl := (HI.out.1) e0
       refine inv_op (o := ⟨some 54, _, _, _, _, _⟩) rfl (fun K' hK' => ?_)
       go_simp
       exact hK'.out _ _ ⟨.mk .., rfl, rfl, Nxt (Upd (fun _ => rfl)) HI.out⟩
     · obtain ⟨rfl, e1⟩ : b2 = false ∧ b1 = true := by revert hp; cases b2 <;> cases b1 <;> simp
       clear hp
       obtain rfl := (HI.out.2.1) e1
       refine inv_op (o := ⟨some 55, _, _, _, _, _⟩) rfl (fun K' hK' => ?_)
       go_simp
       exact hK'.out _ _ ⟨.mk .., rfl, rfl, Nxt (Nxt (Upd (fun _ => rfl))) HI.out⟩
     · obtain ⟨rfl, e2⟩ : b3 = false ∧ b2 = true := by revert hp; cases b3 <;> cases b2 <;> simp
       clear hp
       obtain rfl := (HI.out.2.2.1) e2
       refine inv_op (o := ⟨some 56, _, _, _, _, _⟩) rfl (fun K' hK' => ?_)
       have rW := HI.out.2.2.2.2.2.2.2.2.2.2.2.2.2.2.2.2.2.2.2.2.2.2.2.2.2.1
       obtain ⟨hc6, _⟩ := at_cell rW 6 _ rfl
       go_simp
       exact hK'.out _ _ ⟨.mk .., rfl, rfl, Nxt (Nxt (Nxt (Upd (fun _ => rfl)))) HI.out⟩
     · obtain rfl : b4 = false := by revert hp; cases b4 <;> simp
       clear hp
       refine inv_op (o := ⟨some 57, _, _, _, _, _⟩) rfl (fun K' hK' => ?_)
       go_simp
       exact hK'.out _ _ ⟨.mk .., rfl, rfl, Nx4 (Upd (fun _ => rfl)) HI.out⟩
     · obtain ⟨rfl, e4⟩ : b5 = false ∧ b4 = true := by revert hp; cases b5 <;> cases b4 <;> simp
       clear hp
       obtain rfl := (HI.out.2.2.2.2.1) e4
       refine inv_op (o := ⟨some 58, _, _, _, _, _⟩) rfl (fun K' hK' => ?_)
       go_simp
       exact hK'.out _ _ ⟨.mk .., rfl, rfl, Nxt (Nx4 (Upd (fun _ => rfl))) HI.out⟩
     · obtain ⟨rfl, e5⟩ : b6 = false ∧ b5 = true := by revert hp; cases b6 <;> cases b5 <;> simp
       clear hp
       obtain rfl := (HI.out.2.2.2.2.2.1) e5
       refine inv_op (o := ⟨some 59, _, _, _, _, _⟩) rfl (fun K' hK' => ?_)
       go_simp
       exact hK'.out _ _ ⟨.mk .., rfl, rfl, Nxt (Nxt (Nx4 (Upd (fun _ => rfl)))) HI.out⟩
     · obtain ⟨rfl, e6⟩ : b7 = false ∧ b6 = true := by revert hp; cases b7 <;> cases b6 <;> simp
       clear hp
       obtain rfl := (HI.out.2.2.2.2.2.2.1) e6
       refine inv_op (o := ⟨some 60, _, _, _, _, _⟩) rfl (fun K' hK' => ?_)
       go_simp
       exact hK'.out _ _ ⟨.mk .., rfl, rfl, Nxt (Nxt (Nxt (Nx4 (Upd (fun _ => rfl))))) HI.out⟩
     · obtain ⟨rfl, e7⟩ : b8 = false ∧ b7 = true := by revert hp; cases b8 <;> cases b7 <;> simp
       clear hp
       obtain rfl := (HI.out.2.2.2.2.2.2.2.1) e7
       refine inv_op (o := ⟨some 61, _, _, _, _, _⟩) rfl (fun K' hK' => ?_)
       have rW := HI.out.2.2.2.2.2.2.2.2.2.2.2.2.2.2.2.2.2.2.2.2.2.2.2.2.2.1
       obtain ⟨hc0, _⟩ := at_cell rW 0 _ rfl
       go_simp
       exact hK'.out _ _ ⟨.mk .., rfl, rfl, Nx4 (Nx4 (Upd (fun _ => rfl))) HI.out⟩
     · obtain rfl : b9 = false := by revert hp; cases b9 <;> simp
       clear hp
       refine inv_op (o := ⟨some 62, _, _, _, _, _⟩) rfl (fun K' hK' => ?_)
       go_simp
       exact hK'.out _ _ ⟨.mk .., rfl, rfl, Nxt (Nx4 (Nx4 (Upd (fun _ => rfl)))) HI.out⟩
     · obtain ⟨rfl, e9⟩ : b10 = false ∧ b9 = true := by revert hp; cases b10 <;> cases b9 <;> simp
       clear hp
       obtain rfl := (HI.out.2.2.2.2.2.2.2.2.2.1) e9
       refine inv_op (o := ⟨some 63, _, _, _, _, _⟩) rfl (fun K' hK' => ?_)
       go_simp
       exact hK'.out _ _ ⟨.mk .., rfl, rfl, Nxt (Nxt (Nx4 (Nx4 (Upd (fun _ => rfl))))) HI.out⟩
     · obtain ⟨rfl, e10⟩ : b11 = false ∧ b10 = true := by revert hp; cases b11 <;> cases b10 <;> simp
       clear hp
       obtain rfl := (HI.out.2.2.2.2.2.2.2.2.2.2.1) e10
       refine inv_op (o := ⟨some 64, _, _, _, _, _⟩) rfl (fun K' hK' => ?_)
       go_simp
       exact hK'.out _ _ ⟨.mk .., rfl, rfl, Nxt (Nxt (Nxt (Nx4 (Nx4 (Upd (fun _ => rfl)))))) HI.out⟩
     · obtain ⟨rfl, e11⟩ : b12 = false ∧ b11 = true := by revert hp; cases b12 <;> cases b11 <;> simp
       clear hp
       obtain rfl := (HI.out.2.2.2.2.2.2.2.2.2.2.2.1) e11
       refine inv_op (o := ⟨some 65, _, _, _, _, _⟩) rfl (fun K' hK' => ?_)
       go_simp
       exact hK'.out _ _ ⟨.mk .., rfl, rfl, Nx4 (Nx4 (Nx4 (Upd (fun _ => rfl)))) HI.out⟩
     · obtain ⟨rfl, e12⟩ : b13 = false ∧ b12 = true := by revert hp; cases b13 <;> cases b12 <;> simp
       clear hp
       obtain rfl := (HI.out.2.2.2.2.2.2.2.2.2.2.2.2.1) e12
       refine inv_op (o := ⟨some 66, _, _, _, _, _⟩) rfl (fun K' hK' => ?_)
       have rW := HI.out.2.2.2.2.2.2.2.2.2.2.2.2.2.2.2.2.2.2.2.2.2.2.2.2.2.1
       obtain ⟨hc1, _⟩ := at_cell rW 1 _ rfl
       go_simp
       exact hK'.out _ _ ⟨.mk .., rfl, rfl, Nxt (Nx4 (Nx4 (Nx4 (Upd (fun _ => rfl))))) HI.out⟩
     · obtain rfl : b14 = false := by revert hp; cases b14 <;> simp
       clear hp
       refine inv_op (o := ⟨some 67, _, _, _, _, _⟩) rfl (fun K' hK' => ?_)
       go_simp
       exact hK'.out _ _ ⟨.mk .., rfl, rfl, Nxt (Nxt (Nx4 (Nx4 (Nx4 (Upd (fun _ => rfl)))))) HI.out⟩
     · obtain ⟨rfl, e14⟩ : b15 = false ∧ b14 = true := by revert hp; cases b15 <;> cases b14 <;> simp
       clear hp
       obtain rfl := (HI.out.2.2.2.2.2.2.2.2.2.2.2.2.2.2.1) e14
       refine inv_op (o := ⟨some 68, _, _, _, _, _⟩) rfl (fun K' hK' => ?_)
       go_simp
       exact hK'.out _ _ ⟨.mk .., rfl, rfl, Nxt (Nxt (Nxt (Nx4 (Nx4 (Nx4 (Upd (fun _ => rfl))))))) HI.out⟩
     · obtain ⟨rfl, e15⟩ : b16 = false ∧ b15 = true := by revert hp; cases b16 <;> cases b15 <;> simp
       clear hp
       obtain rfl := (HI.out.2.2.2.2.2.2.2.2.2.2.2.2.2.2.2.1) e15
       refine inv_op (o := ⟨some 69, _, _, _, _, _⟩) rfl (fun K' hK' => ?_)
       go_simp
       exact hK'.out _ _ ⟨.mk .., rfl, rfl, Nx16 (Upd (fun _ => rfl)) HI.out⟩
     · obtain ⟨rfl, e16⟩ : b17 = false ∧ b16 = true := by revert hp; cases b17 <;> cases b16 <;> simp
       clear hp
       obtain rfl := (HI.out.2.2.2.2.2.2.2.2.2.2.2.2.2.2.2.2.1) e16
       refine inv_op (o := ⟨some 70, _, _, _, _, _⟩) rfl (fun K' hK' => ?_)
       go_simp
       exact hK'.out _ _ ⟨.mk .., rfl, rfl, Nxt (Nx16 (Upd (fun _ => rfl))) HI.out⟩
     · obtain ⟨rfl, e17⟩ : b18 = false ∧ b17 = true := by revert hp; cases b18 <;> cases b17 <;> simp
       clear hp
       obtain rfl := (HI.out.2.2.2.2.2.2.2.2.2.2.2.2.2.2.2.2.2.1) e17
       refine inv_op (o := ⟨some 71, _, _, _, _, _⟩) rfl (fun K' hK' => ?_)
       have rW := HI.out.2.2.2.2.2.2.2.2.2.2.2.2.2.2.2.2.2.2.2.2.2.2.2.2.2.1
       obtain ⟨hc4, _⟩ := at_cell rW 4 _ rfl
       go_simp
       exact hK'.out _ _ ⟨.mk .., rfl, rfl, Nxt (Nxt (Nx16 (Upd (fun _ => rfl)))) HI.out⟩
     · have hn19 : b19 = false := by revert hp; cases b19 <;> simp
       have e3 : b3 = true := by revert hp; cases b3 <;> simp
       have e8 : b8 = true := by revert hp; cases b8 <;> simp
       have e13 : b13 = true := by revert hp; cases b13 <;> simp
       have e18 : b18 = true := by revert hp; cases b18 <;> simp
       clear hp
       obtain rfl := (HI.out.2.2.2.1) e3
       obtain rfl := (HI.out.2.2.2.2.2.2.2.2.1) e8
       obtain rfl := (HI.out.2.2.2.2.2.2.2.2.2.2.2.2.2.1) e13
       obtain rfl := (HI.out.2.2.2.2.2.2.2.2.2.2.2.2.2.2.2.2.2.2.1) e18
       subst hn19
       refine inv_op (o := ⟨some 72, _, _, _, _, _⟩) rfl (fun K' hK' => ?_)
       have gi24 := HI.out.2.2.2.2.2.2.2.2.2.2.2.2.2.2.2.2.2.2.2.2.2.2.2.2.1
       have gB := HI.out.2.2.2.2.2.2.2.2.2.2.2.2.2.2.2.2.2.2.2.2.2.2.2.2.2.2.1
       have hbf24 : b24 = false := by cases b24 with | false => rfl | true => exact absurd ((gi24 rfl).1) (by decide)
       subst hbf24
       go_simp
       refine (usedAt_any _ l (bq : Nat) (N : Nat) la HLA.out 0 x0 x1 HUF.out HX0.out HX1.out HMX.out W (HW1.out.below gB).mem.arg).mono ?_
       rintro e w2 ⟨rfl, bn⟩
       obtain ⟨h0, h1, h2, h3, h4, h5, h6, h7, h8, h9, h10, h11, h12, h13, h14, h15, h16, h17, h18, h19, h20, h21, h22, h25, gi24, rW, gB, gA, gS⟩ := HI.out
       exact hK'.out _ _ ⟨.mk .., rfl, rfl, h0, h1, h2, h3, h4, h5, h6, h7, h8, h9, h10, h11, h12, h13, h14, h15, h16, h17, h18, (fun _ => rfl), h20, h21, h22, h25, (fun e => by cases e), (row_keep rW bn), (gB.trans (bn.mono gB.size)), (fun e e2 => by obtain ⟨gu, h1, h2, h3⟩ := gA e e2; exact ⟨gu, h1, h2, row_keep h3 bn⟩), (fun e => by cases e)⟩
     · obtain ⟨rfl, e19⟩ : b20 = false ∧ b19 = true := by revert hp; cases b20 <;> cases b19 <;> simp
       clear hp
       obtain rfl := (HI.out.2.2.2.2.2.2.2.2.2.2.2.2.2.2.2.2.2.2.2.1) e19
       refine inv_op (o := ⟨some 52, _, _, _, _, _⟩) rfl (fun K' hK' => ?_)
       go_simp
       exact hK'.out _ _ ⟨.mk .., rfl, rfl, Nx4 (Nx16 (Upd (fun _ => rfl))) HI.out⟩
     · obtain ⟨rfl, e20⟩ : b21 = false ∧ b20 = true := by revert hp; cases b21 <;> cases b20 <;> simp
       clear hp
       obtain rfl := (HI.out.2.2.2.2.2.2.2.2.2.2.2.2.2.2.2.2.2.2.2.2.1) e20
       refine inv_op (o := ⟨some 73, _, _, _, _, _⟩) rfl (fun K' hK' => ?_)
       go_simp
       exact hK'.out _ _ ⟨.mk .., rfl, rfl, Nxt (Nx4 (Nx16 (Upd (fun _ => rfl)))) HI.out⟩
     · obtain ⟨rfl, e20⟩ : b22 = false ∧ b20 = true := by revert hp; cases b22 <;> cases b20 <;> simp
       clear hp
       obtain rfl := (HI.out.2.2.2.2.2.2.2.2.2.2.2.2.2.2.2.2.2.2.2.2.1) e20
       refine inv_op (o := ⟨some 74, _, _, _, _, _⟩) rfl (fun K' hK' => ?_)
       go_simp
       exact hK'.out _ _ ⟨.mk .., rfl, rfl, Nxt (Nxt (Nx4 (Nx16 (Upd (fun _ => rfl))))) HI.out⟩
     · obtain rfl : b23 = false := by revert hp; cases b23 <;> simp
       clear hp
       refine inv_op (o := ⟨some 7, _, _, _, _, _⟩) rfl (fun K' hK' => ?_)
       have gi24 := HI.out.2.2.2.2.2.2.2.2.2.2.2.2.2.2.2.2.2.2.2.2.2.2.2.2.1
       have hbf24 : b24 = false := by cases b24 with | false => rfl | true => exact absurd ((gi24 rfl).2) (by decide)
       subst hbf24
       have bn : Below W.heap.size W (W.alloc (.cells #[.int .u32 0, .int .u32 0] 53)) := (Below.refl _ _).alloc (Nat.le_refl _) _
       have hn := heap_alloc_new W (.cells #[.int .u32 0, .int .u32 0] 53)
       go_simp
       obtain ⟨h0, h1, h2, h3, h4, h5, h6, h7, h8, h9, h10, h11, h12, h13, h14, h15, h16, h17, h18, h19, h20, h21, h22, h25, gi24, rW, gB, gA, gS⟩ := HI.out
       exact hK'.out _ _ ⟨.mk .., rfl, rfl, h0, h1, h2, h3, h4, h5, h6, h7, h8, h9, h10, h11, h12, h13, h14, h15, h16, h17, h18, h19, h20, h21, h22, h25, (fun e => by cases e), (row_keep rW bn), (gB.trans (bn.mono gB.size)), (fun _ _ => ⟨_, rfl, gB.size, hn⟩), (fun e => by cases e)⟩
     · have hn24 : b24 = false := by revert hp; cases b24 <;> simp
       have e21 : b21 = true := by revert hp; cases b21 <;> simp
       have e23 : b23 = true := by revert hp; cases b23 <;> simp
       have e19 : b19 = true := by revert hp; cases b19 <;> simp
       clear hp
       obtain rfl := (HI.out.2.2.2.2.2.2.2.2.2.2.2.2.2.2.2.2.2.2.2.2.2.1) e21
       subst hn24
       refine inv_op (o := ⟨none, _, _, _, _, _⟩) rfl (fun K' hK' => ?_)
       have gA := HI.out.2.2.2.2.2.2.2.2.2.2.2.2.2.2.2.2.2.2.2.2.2.2.2.2.2.2.2.1
       obtain ⟨gu, rfl, hlo, hrow⟩ := gA rfl e23
       obtain ⟨hc0, hc1, hz0, hz1⟩ := cells_two hrow
       have hlx := (Array.getElem?_eq_some_iff.1 hrow).1
       go_simp
       obtain ⟨h0, h1, h2, h3, h4, h5, h6, h7, h8, h9, h10, h11, h12, h13, h14, h15, h16, h17, h18, h19, h20, h21, h22, h25, gi24, rW, gB, gA, gS⟩ := HI.out
       exact hK'.out _ _ ⟨.mk .., rfl, rfl, h0, h1, h2, h3, h4, h5, h6, h7, h8, h9, h10, h11, h12, h13, h14, h15, h16, h17, h18, h19, h20, h21, h22, h25, (fun _ => ⟨e19, e23⟩), (one_other (one_other rW _ _ (blocks_ne rW hrow (by decide))) _ _ (blocks_ne rW hrow (by decide))), ((gB.setCell (p := ⟨gu, 0, none⟩) hlo _).setCell (p := ⟨gu, 1, none⟩) hlo _), (fun e => by cases e), (fun _ => ⟨gu, rfl, hlo, row_put (row_put hrow 0 _) 1 _⟩)⟩
     · obtain ⟨rfl, e22, e24⟩ : b25 = false ∧ b22 = true ∧ b24 = true := by revert hp; cases b25 <;> cases b22 <;> cases b24 <;> simp
       clear hp
       obtain rfl := (HI.out.2.2.2.2.2.2.2.2.2.2.2.2.2.2.2.2.2.2.2.2.2.2.1) e22
       refine inv_op (o := ⟨some 8, _, _, _, _, _⟩) rfl (fun K' hK' => ?_)
       go_simp
       exact hK'.out _ _ ⟨.mk .., rfl, rfl, Nxt (Nxt (Nxt (Nx4 (Nx16 (Upd (fun _ => rfl)))))) HI.out⟩
    case hdone =>
     rintro ⟨b0, b1, b2, b3, b4, b5, b6, b7, b8, b9, b10, b11, b12, b13, b14, b15, b16, b17, b18, b19, b20, b21, b22, b23, b24, b25, s53, s54, s55, s56, s57, s58, s59, s60, s61, s62, s63, s64, s65, s66, s67, s68, s69, s70, s71, s72, s52, s73, s74, s7, s8⟩ W hI hall
     dsimp only at hI hall ⊢
     have HI := Lib.hid hI
     clear hI
     obtain rfl : b0 = true := hall 0 (by decide)
     obtain rfl : b1 = true := hall 1 (by decide)
     obtain rfl : b2 = true := hall 2 (by decide)
     obtain rfl : b3 = true := hall 3 (by decide)
     obtain rfl : b4 = true := hall 4 (by decide)
     obtain rfl : b5 = true := hall 5 (by decide)
     obtain rfl : b6 = true := hall 6 (by decide)
     obtain rfl : b7 = true := hall 7 (by decide)
     obtain rfl : b8 = true := hall 8 (by decide)
     obtain rfl : b9 = true := hall 9 (by decide)
     obtain rfl : b10 = true := hall 10 (by decide)
     obtain rfl : b11 = true := hall 11 (by decide)
     obtain rfl : b12 = true := hall 12 (by decide)
     obtain rfl : b13 = true := hall 13 (by decide)
     obtain rfl : b14 = true := hall 14 (by decide)
     obtain rfl : b15 = true := hall 15 (by decide)
     obtain rfl : b16 = true := hall 16 (by decide)
     obtain rfl : b17 = true := hall 17 (by decide)
     obtain rfl : b18 = true := hall 18 (by decide)
     obtain rfl : b19 = true := hall 19 (by decide)
     obtain rfl : b20 = true := hall 20 (by decide)
     obtain rfl : b21 = true := hall 21 (by decide)
     obtain rfl : b22 = true := hall 22 (by decide)
     obtain rfl : b23 = true := hall 23 (by decide)
     obtain rfl : b24 = true := hall 24 (by decide)
     obtain rfl : b25 = true := hall 25 (by decide)
     obtain rfl := (HI.out.2.2.2.2.2.2.2.2.2.2.2.2.2.2.2.2.2.2.2.2.2.2.2.1) rfl
     have rW := HI.out.2.2.2.2.2.2.2.2.2.2.2.2.2.2.2.2.2.2.2.2.2.2.2.2.2.1
     have gB := HI.out.2.2.2.2.2.2.2.2.2.2.2.2.2.2.2.2.2.2.2.2.2.2.2.2.2.2.1
     have gS := HI.out.2.2.2.2.2.2.2.2.2.2.2.2.2.2.2.2.2.2.2.2.2.2.2.2.2.2.2.2
     clear HI hall
     obtain ⟨gu, rfl, hlo, hrow⟩ := gS rfl
     have HW2 := Lib.hid (show WorkB B W g _ _ _ _ D l from ⟨HW1.out.lo, rW, HW1.out.isq.below gB, HW1.out.mem.below gB⟩)
     have HR2 := Lib.hid (row_keep HR1.out gB)
     have HB2 := Lib.hid (HB1.out.trans (gB.mono HB1.out.size))
     have hng : g ≠ gu := blocks_ne hrow rW (by decide)
     have HU2 := Lib.hid (one_other hrow ⟨g, 4, none⟩ (.int .u16 (t : Nat)) hng)
     have hnr : g ≠ w.heap.size := blocks_ne HR2.out rW (by decide)
     have HR3 := Lib.hid (one_other HR2.out ⟨g, 4, none⟩ (.int .u16 (t : Nat)) hnr)
     have HW3 := Lib.hid (HW2.out.setL t)
     have HS3 := Lib.hid ((Spare.of_below (T := dirtyW) HB2.out HBB.out).trans (Spare.set (i := 4) (u := .int .u16 (t : Nat)) HW2.out.row rfl HW2.out.lo))
     clear l0 l1 l2 l3 l4 l5 l6 z0 z1 z2 z3 z4 z5 z6 r0 r1 y0 y1 hlg hlr
     obtain ⟨⟨l0, l1, l2, l3, l4, l5, l6⟩, z0, z1, z2, z3, z4, z5, z6⟩ := cells_seven rW
     have hlg := (Array.getElem?_eq_some_iff.1 rW).1
     obtain ⟨u0, u1, _⟩ := cells_two HU2.out
     obtain ⟨r0, r1, y0, y1⟩ := cells_two HR3.out
     have hlr := (Array.getElem?_eq_some_iff.1 HR2.out).1
     clear rW gB gS hlo hrow
     go_wp2
     refine bodyPost_ret (v := .tuple #[.agg #[.int .u32 (x0 : Nat), .int .u32 (x1 : Nat)], .int .i64 0]) (by simp [results, Tryz.results36, go_sem, r0, r1]) rfl ⟨rfl, ?_, ?_⟩
     · exact (HW3.out.stay HR3.out (by decide) (by decide) (by decide) (by decide) 0 _).stay (row_put HR3.out 0 _) (by decide) (by decide) (by decide) (by decide) 1 _
     · exact (HS3.out.new (Nat.le_refl _) HBB.out 0 _).new (Nat.le_refl _) HBB.out 1 _
end Go.Proofs.YtnmekbbnglkmcaaGreat
namespace Go.Proofs.YtnmekbbnglkmcaaGreat
open Go.RowKit Go.Lib
theorem find_any (B g : Nat) (q : QQ) (N : Nat) (F C M : Value) (D : List Value) (l : List UInt8) (x0 x1 : Nat) (h0 : x0 < 4294967296) (h1 : x1 < 4294967296) (w : World) (hw : WorkB B w g q F C M D l) (hg : GoodQ q N) :
 Calls Tryz.prog 37 #[.pointer (some ⟨g, 0, none⟩), .agg #[.int .u32 (x0 : Nat), .int .u32 (x1 : Nat)]] w fun e w' => ∃ z, e = .returned (.int .i64 z) ∧ ((z = -1 ∧ ∀ c ∈ q.chains, isUsed x0 x1 c = false) ∨ ∃ i c, z = (i : Nat) ∧ q.chains[i]? = some c ∧ isUsed x0 x1 c = true) ∧ Below w.heap.size w w' := by
 obtain ⟨few1, few2, few3, few4, few5⟩ := hg.few
 have hcs : ∀ c ∈ q.chains, 0 ≤ c.head ∧ c.head ≤ 1000 ∧ 0 ≤ c.room ∧ c.room ≤ 2147483647 := fun c hc => by
  have h2 := hg.headIn hc
  have h3 := hg.chain c hc
  exact ⟨h2.1, by omega, h3.2.2⟩
 have HCS := Lib.hid hcs
 have HCL := Lib.hid (show q.chains.length ≤ 1000 by omega)
 have hbx : Below w.heap.size w (w.alloc (.cells #[.int .u32 (x0 : Nat), .int .u32 (x1 : Nat)] 53)) := (Below.refl _ _).alloc (Nat.le_refl _) _
 have HBX := Lib.hid hbx
 have HW := Lib.hid (hw.below hbx)
 have HR := Lib.hid (heap_alloc_new w (.cells #[.int .u32 (x0 : Nat), .int .u32 (x1 : Nat)] 53))
 have H0 := Lib.hid h0
 have H1 := Lib.hid h1
 obtain ⟨⟨l0, l1, l2, l3, l4, l5, l6⟩, z0, z1, z2, z3, z4, z5, z6⟩ := cells_seven HW.out.row
 clear hw hg hcs few1 few2 few3 few4 few5 hbx h0 h1 z0 z1 z2 z3 z4 z5 z6
 go_enter Tryz.func37, Tryz.ntmps37
 go_wp2_with fail
 refine (findC_any C q.chains D x0 x1 w.heap.size H0.out H1.out _ HW.out.isq.chains HCL.out HR.out HCS.out).mono ?_
 rintro e w1 ⟨z, rfl, hz, hb⟩
 have HZ := Lib.hid hz
 have HB := Lib.hid (HBX.out.trans (hb.mono HBX.out.size))
 clear hz hb l0 l1 l2 l3 l4 l5 l6
 go_wp2
 go_ret
 exact ⟨z, rfl, HZ.out, HB.out⟩
theorem ints_news {B : Nat} {w : World} {g n c : Nat} {l : List Int} (h : OwnI B w (.slice (some ⟨g, 0, none⟩) n c) l) : ∀ j u, (l.map (Value.int .i64))[j]? = some u → w.cell? ((⟨g, 0, none⟩ : Addr).add j) = some u := by
 intro j u hu
 rw [Addr.add_lit, Nat.zero_add]
 rw [List.getElem?_map] at hu
 cases e : l[j]? with
 | none => rw [e] at hu; cases hu
 | some y =>
   rw [e] at hu
   injection hu with hu
   have hj : j < l.length := (List.getElem?_eq_some_iff.1 e).1
   rw [h.at j hj, List.getD_eq_getElem?_getD, e, ← hu]
   rfl
structure QueRelA where
 (b0 b1 b2 b3 b4 b5 b6 b7 b8 b9 b10 b11 b12 b13 b14 b15 b16 b17 b18 b19 : Bool)
 (s4 s5 s6 s7 s8 s9 s10 s11 s12 s13 s14 s15 s16 s17 s18 s19 s20 s21 s22 : Value)
set_option maxHeartbeats 4000000 in
set_option maxRecDepth 100000 in
theorem release_any (B g i : Nat) (q : QQ) (N : Nat) (F C M : Value) (D : List Value) (l : List UInt8) (c : QCh) (w : World) (hw : WorkB B w g q F C M D l) (hg : GoodQ q N) (hc : q.chains[i]? = some c) (hB : B ≤ w.heap.size) :
 Calls Tryz.prog 38 #[.pointer (some ⟨g, 0, none⟩), .int .i64 (i : Nat)] w fun e w' => ∃ F2 C2 D2, e = .returned (.tuple #[]) ∧ WorkB B w' g (relQ q i) F2 C2 M D2 l ∧ Spare w w' B dirtyQ := by
 obtain ⟨few1, few2, few3, few4, few5⟩ := hg.few
 have hzN := hg.size
 have hch := hg.chain c (List.mem_of_getElem? hc)
 have hds := few5 c (List.mem_of_getElem? hc)
 have hrel : relQ q i = { q with free := (q.free ++ c.ds).mergeSort fun x y => decide (x ≤ y), chains := q.chains.eraseIdx i } := by unfold relQ relF; rw [hc]; rfl
 rw [hrel]
 obtain ⟨fa, fn, fc, ca, cn, cc, rfl, rfl, hfn, hcn, k1, k2, k3, k4⟩ := hw.isq.shape
 obtain ⟨b, z, fr, av, la, ch⟩ := q
 obtain ⟨hd, ds, rm⟩ := c
 simp only at *
 subst hzN
 obtain ⟨va, vc, rfl, hv1, hv2⟩ := hw.mem.shape
 obtain ⟨L, hL⟩ : ∃ L, L = l.length := ⟨_, rfl⟩
 rw [← hL] at hw ⊢
 have hi : i < ch.length := (List.getElem?_eq_some_iff.1 hc).1
 obtain ⟨gc, ccur, rfl, p1, p2, hcrow, p3, p4, p5⟩ := hw.isq.chains.lie (by show 0 < ch.length; omega)
 obtain ⟨x, d, e1, e2, e3, e4, e5, e6⟩ := hw.isq.chains.at i hi
 obtain rfl : x = ⟨hd, ds, rm⟩ := by rw [hc] at e1; injection e1 with e1; exact e1.symm
 simp only at e3 e4 e5 e6
 obtain ⟨da, dc, rfl, y1, y2⟩ := e6.shape
 obtain ⟨m, hm⟩ : ∃ m, ds.length = m := ⟨_, rfl⟩
 rw [hm] at e2 e4 e6 y1 hds
 obtain ⟨gd, dcur, rfl, o1, o2, hdrow, o3, o4, o5⟩ := e6.lie hch.1
 have HW := Lib.hid hw
 have HD1 := Lib.hid e4
 have HOD := Lib.hid e6
 have HM := Lib.hid (show (ds.map (Value.int .i64)).length = m * 1 by rw [List.length_map, hm, Nat.mul_one])
 have HMM := Lib.hid hm
 have HNE := Lib.hid hch.1
 have HCL := Lib.hid (show fr.length + m ≤ 1000 by omega)
 have HCC := Lib.hid (show ch.length ≤ 1000 by omega)
 have HBB := Lib.hid hB
 have HI := Lib.hid hi
 have HCR := Lib.hid hcrow
 have HCN := Lib.hid hcn
 have hin : i < cn := by omega
 have hi16 : i < 16 := by omega
 have hcn16 : cn ≤ 16 := by omega
 obtain ⟨ic, hic, hcz0, hcz1, hcz2⟩ := info_parts infoI
 clear hw hg hc hB few1 few2 few3 few4 few5 hch hds hrel hfn hcn k1 k2 k3 k4 hv1 hv2 hL hi p1 p2 hcrow p3 p4 p5 e1 e2 e3 e4 e5 e6 y1 y2 hm o1 o2 hdrow o3 o4 o5
 go_enter Tryz.func38, Tryz.ntmps38
 go_wp2_with fail
 refine wp_region_rec (X := QueRelA) (by kernel_rfl) (by kernel_rfl) (fun x => #[x.b0, x.b1, x.b2, x.b3, x.b4, x.b5, x.b6, x.b7, x.b8, x.b9, x.b10, x.b11, x.b12, x.b13, x.b14, x.b15, x.b16, x.b17, x.b18, x.b19]) (fun x => { tmps := List.toArray ((.pointer (some ⟨g, 0, none⟩)) :: (.int .i64 (i : Nat)) :: undef :: undef :: x.s4 :: x.s5 :: x.s6 :: x.s7 :: x.s8 :: x.s9 :: x.s10 :: x.s11 :: x.s12 :: x.s13 :: x.s14 :: x.s15 :: x.s16 :: x.s17 :: x.s18 :: x.s19 :: x.s20 :: x.s21 :: x.s22 :: undef :: undef :: undef :: undef :: undef :: undef :: undef :: undef :: undef :: undef :: undef :: undef :: undef :: undef :: undef :: undef :: undef :: undef :: undef :: []), defers := [] }) (fun x W => (x.b0 = true → x.s4 = .pointer (some ⟨g, 0, none⟩)) ∧ (x.b1 = true → x.s5 = .pointer (some ⟨g, 0, none⟩)) ∧ (x.b2 = true → x.s6 = .pointer (some ⟨g, 0, none⟩)) ∧ (x.b3 = true → x.s7 = .pointer (some ⟨g, 0, none⟩)) ∧ (x.b4 = true → x.s8 = .pointer (some ⟨g, 2, none⟩)) ∧ (x.b5 = true → x.s9 = .slice fa fn fc) ∧ (x.b6 = true → x.s10 = .pointer (some ⟨g, 0, none⟩)) ∧ (x.b7 = true → x.s11 = .pointer (some ⟨g, 0, none⟩)) ∧ (x.b8 = true → x.s12 = .pointer (some ⟨g, 0, none⟩)) ∧ (x.b9 = true → x.s13 = .pointer (some ⟨g, 5, none⟩)) ∧ (x.b10 = true → x.s14 = .slice (some ⟨gc, 0, none⟩) cn cc) ∧ (x.b11 = true → x.s15 = .int .i64 (i : Nat)) ∧ (x.b12 = true → x.s16 = .pointer (some ⟨gc, i * 3, none⟩)) ∧ (x.b13 = true → x.s17 = .pointer (some ⟨gc, i * 3 + 1, none⟩)) ∧ (x.b14 = true → x.s18 = .slice (some ⟨gd, 0, none⟩) m dc) ∧ (x.b16 = true → x.s20 = .pointer (some ⟨g, 0, none⟩)) ∧ (x.b17 = true → x.s21 = .pointer (some ⟨g, 0, none⟩)) ∧ (x.b18 = true → x.s22 = .pointer (some ⟨g, 2, none⟩)) ∧ (x.b15 = true → x.b5 = true ∧ x.b10 = true ∧ x.b14 = true) ∧ (x.b19 = true → x.b15 = true) ∧ (x.b14 = true → x.b10 = true) ∧ (x.b13 = true → x.b10 = true) ∧ (x.b12 = true → x.b10 = true) ∧ (x.b15 = false → Below w.heap.size w W) ∧ (x.b19 = false → x.b15 = true → ∃ fa2 fc2 Wp, x.s19 = .slice fa2 (fr.length + m) fc2 ∧ Below w.heap.size w Wp ∧ Grew B Wp W (.slice fa fn fc) (.slice fa2 (fr.length + m) fc2) 3 1 (fr.length + m) (fr.map (Value.int .i64) ++ ds.map (Value.int .i64))) ∧ (x.b19 = true → ∃ fa2 fc2 Wp w6, W = w6.setCell ⟨g, 2, none⟩ (.slice fa2 (fr.length + m) fc2) ∧ Below w.heap.size w Wp ∧ Grew B Wp w6 (.slice fa fn fc) (.slice fa2 (fr.length + m) fc2) 3 1 (fr.length + m) (fr.map (Value.int .i64) ++ ds.map (Value.int .i64)))) ⟨false, false, false, false, false, false, false, false, false, false, false, false, false, false, false, false, false, false, false, false, undef, undef, undef, undef, undef, undef, undef, undef, undef, undef, undef, undef, undef, undef, undef, undef, undef, undef, undef⟩ rfl rfl ⟨(fun h => by cases h), (fun h => by cases h), (fun h => by cases h), (fun h => by cases h), (fun h => by cases h), (fun h => by cases h), (fun h => by cases h), (fun h => by cases h), (fun h => by cases h), (fun h => by cases h), (fun h => by cases h), (fun h => by cases h), (fun h => by cases h), (fun h => by cases h), (fun h => by cases h), (fun h => by cases h), (fun h => by cases h), (fun h => by cases h), (fun h => by cases h), (fun h => by cases h), (fun h => by cases h), (fun h => by cases h), (fun h => by cases h), (fun _ => (Below.refl _ _).drew), (fun _ h => by cases h), (fun h => by cases h)⟩ (fun _ => rfl) ?hstep ?hdone
 case hstep =>
  rintro ⟨b0, b1, b2, b3, b4, b5, b6, b7, b8, b9, b10, b11, b12, b13, b14, b15, b16, b17, b18, b19, s4, s5, s6, s7, s8, s9, s10, s11, s12, s13, s14, s15, s16, s17, s18, s19, s20, s21, s22⟩ W hI i hi
  dsimp only at hI hi ⊢
  have HI := Lib.hid hI
  clear hI
  rw [Region.ready, List.mem_filter, List.mem_range] at hi
  obtain ⟨hlt, hp⟩ := hi
  have hi7 : i = 0 ∨ i = 1 ∨ i = 2 ∨ i = 3 ∨ i = 4 ∨ i = 5 ∨ i = 6 ∨ i = 7 ∨ i = 8 ∨ i = 9 ∨ i = 10 ∨ i = 11 ∨ i = 12 ∨ i = 13 ∨ i = 14 ∨ i = 15 ∨ i = 16 ∨ i = 17 ∨ i = 18 ∨ i = 19 := by simp at hlt; omega
  clear hlt
  rcases hi7 with rfl | rfl | rfl | rfl | rfl | rfl | rfl | rfl | rfl | rfl | rfl | rfl | rfl | rfl | rfl | rfl | rfl | rfl | rfl | rfl
  all_goals simp [Region.binds] at hp
  · obtain rfl : b0 = false := by revert hp; cases b0 <;> simp
    clear hp
    refine inv_op (o := ⟨some 4, _, _, _, _, _⟩) rfl (fun K' hK' => ?_)
    go_simp
    exact hK'.out _ _ ⟨.mk .., rfl, rfl, (Upd (fun _ => rfl)) HI.out⟩
  · obtain rfl : b1 = false := by revert hp; cases b1 <;> simp
    clear hp
    refine inv_op (o := ⟨some 5, _, _, _, _, _⟩) rfl (fun K' hK' => ?_)
    go_simp
    exact hK'.out _ _ ⟨.mk .., rfl, rfl, Nxt (Upd (fun _ => rfl)) HI.out⟩
  · obtain ⟨rfl, e1⟩ : b2 = false ∧ b1 = true := by revert hp; cases b2 <;> cases b1 <;> simp
    clear hp
    obtain rfl := (HI.out.2.1) e1
    refine inv_op (o := ⟨some 6, _, _, _, _, _⟩) rfl (fun K' hK' => ?_)
    go_simp
    exact hK'.out _ _ ⟨.mk .., rfl, rfl, Nxt (Nxt (Upd (fun _ => rfl))) HI.out⟩
  · obtain ⟨rfl, e2⟩ : b3 = false ∧ b2 = true := by revert hp; cases b3 <;> cases b2 <;> simp
    clear hp
    obtain rfl := (HI.out.2.2.1) e2
    refine inv_op (o := ⟨some 7, _, _, _, _, _⟩) rfl (fun K' hK' => ?_)
    go_simp
    exact hK'.out _ _ ⟨.mk .., rfl, rfl, Nxt (Nxt (Nxt (Upd (fun _ => rfl)))) HI.out⟩
  · obtain ⟨rfl, e3⟩ : b4 = false ∧ b3 = true := by revert hp; cases b4 <;> cases b3 <;> simp
    clear hp
    obtain rfl := (HI.out.2.2.2.1) e3
    refine inv_op (o := ⟨some 8, _, _, _, _, _⟩) rfl (fun K' hK' => ?_)
    go_simp
    exact hK'.out _ _ ⟨.mk .., rfl, rfl, Nx4 (Upd (fun _ => rfl)) HI.out⟩
  · obtain ⟨rfl, e4⟩ : b5 = false ∧ b4 = true := by revert hp; cases b5 <;> cases b4 <;> simp
    clear hp
    obtain rfl := (HI.out.2.2.2.2.1) e4
    refine inv_op (o := ⟨some 9, _, _, _, _, _⟩) rfl (fun K' hK' => ?_)
    have gi15 := HI.out.2.2.2.2.2.2.2.2.2.2.2.2.2.2.2.2.2.2.1
    have gB := HI.out.2.2.2.2.2.2.2.2.2.2.2.2.2.2.2.2.2.2.2.2.2.2.2.1
    have hbf15 : b15 = false := by cases b15 with | false => rfl | true => exact absurd ((gi15 rfl).1) (by decide)
    subst hbf15
    have hc2 := (at_cell (row_keep HW.out.row (gB rfl)) 2 _ rfl).1
    go_simp
    exact hK'.out _ _ ⟨.mk .., rfl, rfl, Nxt (Nxt (Nx16 (Upd (fun e => by cases e)))) (Nxt (Nx4 (Upd (fun _ => rfl))) HI.out)⟩
  · obtain rfl : b6 = false := by revert hp; cases b6 <;> simp
    clear hp
    refine inv_op (o := ⟨some 10, _, _, _, _, _⟩) rfl (fun K' hK' => ?_)
    go_simp
    exact hK'.out _ _ ⟨.mk .., rfl, rfl, Nxt (Nxt (Nx4 (Upd (fun _ => rfl)))) HI.out⟩
  · obtain ⟨rfl, e6⟩ : b7 = false ∧ b6 = true := by revert hp; cases b7 <;> cases b6 <;> simp
    clear hp
    obtain rfl := (HI.out.2.2.2.2.2.2.1) e6
    refine inv_op (o := ⟨some 11, _, _, _, _, _⟩) rfl (fun K' hK' => ?_)
    go_simp
    exact hK'.out _ _ ⟨.mk .., rfl, rfl, Nxt (Nxt (Nxt (Nx4 (Upd (fun _ => rfl))))) HI.out⟩
  · obtain ⟨rfl, e7⟩ : b8 = false ∧ b7 = true := by revert hp; cases b8 <;> cases b7 <;> simp
    clear hp
    obtain rfl := (HI.out.2.2.2.2.2.2.2.1) e7
    refine inv_op (o := ⟨some 12, _, _, _, _, _⟩) rfl (fun K' hK' => ?_)
    go_simp
    exact hK'.out _ _ ⟨.mk .., rfl, rfl, Nx4 (Nx4 (Upd (fun _ => rfl))) HI.out⟩
  · obtain ⟨rfl, e8⟩ : b9 = false ∧ b8 = true := by revert hp; cases b9 <;> cases b8 <;> simp
    clear hp
    obtain rfl := (HI.out.2.2.2.2.2.2.2.2.1) e8
    refine inv_op (o := ⟨some 13, _, _, _, _, _⟩) rfl (fun K' hK' => ?_)
    go_simp
    exact hK'.out _ _ ⟨.mk .., rfl, rfl, Nxt (Nx4 (Nx4 (Upd (fun _ => rfl)))) HI.out⟩
  · obtain ⟨rfl, e9⟩ : b10 = false ∧ b9 = true := by revert hp; cases b10 <;> cases b9 <;> simp
    clear hp
    obtain rfl := (HI.out.2.2.2.2.2.2.2.2.2.1) e9
    refine inv_op (o := ⟨some 14, _, _, _, _, _⟩) rfl (fun K' hK' => ?_)
    have gi15 := HI.out.2.2.2.2.2.2.2.2.2.2.2.2.2.2.2.2.2.2.1
    have gi14 := HI.out.2.2.2.2.2.2.2.2.2.2.2.2.2.2.2.2.2.2.2.2.1
    have gi13 := HI.out.2.2.2.2.2.2.2.2.2.2.2.2.2.2.2.2.2.2.2.2.2.1
    have gi12 := HI.out.2.2.2.2.2.2.2.2.2.2.2.2.2.2.2.2.2.2.2.2.2.2.1
    have gB := HI.out.2.2.2.2.2.2.2.2.2.2.2.2.2.2.2.2.2.2.2.2.2.2.2.1
    have hbf15 : b15 = false := by cases b15 with | false => rfl | true => exact absurd ((gi15 rfl).2.1) (by decide)
    subst hbf15
    have hbf14 : b14 = false := by cases b14 with | false => rfl | true => exact absurd ((gi14 rfl)) (by decide)
    subst hbf14
    have hbf13 : b13 = false := by cases b13 with | false => rfl | true => exact absurd ((gi13 rfl)) (by decide)
    subst hbf13
    have hbf12 : b12 = false := by cases b12 with | false => rfl | true => exact absurd ((gi12 rfl)) (by decide)
    subst hbf12
    have hc5 := (at_cell (row_keep HW.out.row (gB rfl)) 5 _ rfl).1
    go_simp
    obtain ⟨h0, h1, h2, h3, h4, h5, h6, h7, h8, h9, h10, h11, h12, h13, h14, h16, h17, h18, gi15, gi19, gi14, gi13, gi12, gB, gC, gF⟩ := HI.out
    exact hK'.out _ _ ⟨.mk .., rfl, rfl, h0, h1, h2, h3, h4, h5, h6, h7, h8, h9, (fun _ => rfl), h11, h12, h13, h14, h16, h17, h18, (fun e => by cases e), gi19, (fun e => by cases e), (fun e => by cases e), (fun e => by cases e), gB, gC, gF⟩
  · obtain rfl : b11 = false := by revert hp; cases b11 <;> simp
    clear hp
    refine inv_op (o := ⟨some 15, _, _, _, _, _⟩) rfl (fun K' hK' => ?_)
    go_simp
    exact hK'.out _ _ ⟨.mk .., rfl, rfl, Nxt (Nxt (Nxt (Nx4 (Nx4 (Upd (fun _ => rfl)))))) HI.out⟩
  · obtain ⟨rfl, e10, e11⟩ : b12 = false ∧ b10 = true ∧ b11 = true := by revert hp; cases b12 <;> cases b10 <;> cases b11 <;> simp
    clear hp
    obtain rfl := (HI.out.2.2.2.2.2.2.2.2.2.2.1) e10
    obtain rfl := (HI.out.2.2.2.2.2.2.2.2.2.2.2.1) e11
    refine inv_op (o := ⟨some 16, _, _, _, _, _⟩) rfl (fun K' hK' => ?_)
    go_simp
    exact hK'.out _ _ ⟨.mk .., rfl, rfl, Nxt (Nxt (Nx4 (Nx16 (Upd (fun _ => e10))))) (Nx4 (Nx4 (Nx4 (Upd (fun _ => rfl)))) HI.out)⟩
  · obtain ⟨rfl, e12⟩ : b13 = false ∧ b12 = true := by revert hp; cases b13 <;> cases b12 <;> simp
    clear hp
    obtain rfl := (HI.out.2.2.2.2.2.2.2.2.2.2.2.2.1) e12
    refine inv_op (o := ⟨some 17, _, _, _, _, _⟩) rfl (fun K' hK' => ?_)
    go_simp
    obtain ⟨h0, h1, h2, h3, h4, h5, h6, h7, h8, h9, h10, h11, h12, h13, h14, h16, h17, h18, gi15, gi19, gi14, gi13, gi12, gB, gC, gF⟩ := HI.out
    exact hK'.out _ _ ⟨.mk .., rfl, rfl, h0, h1, h2, h3, h4, h5, h6, h7, h8, h9, h10, h11, h12, (fun _ => rfl), h14, h16, h17, h18, gi15, gi19, gi14, (fun _ => (gi12 e12)), gi12, gB, gC, gF⟩
  · obtain ⟨rfl, e13⟩ : b14 = false ∧ b13 = true := by revert hp; cases b14 <;> cases b13 <;> simp
    clear hp
    obtain rfl := (HI.out.2.2.2.2.2.2.2.2.2.2.2.2.2.1) e13
    refine inv_op (o := ⟨some 18, _, _, _, _, _⟩) rfl (fun K' hK' => ?_)
    have gi15 := HI.out.2.2.2.2.2.2.2.2.2.2.2.2.2.2.2.2.2.2.1
    have gB := HI.out.2.2.2.2.2.2.2.2.2.2.2.2.2.2.2.2.2.2.2.2.2.2.2.1
    have hbf15 : b15 = false := by cases b15 with | false => rfl | true => exact absurd ((gi15 rfl).2.2) (by decide)
    subst hbf15
    have hc1 := HD1.out
    rw [← Below.cell (gB rfl) (World.block_lt_of_cell? w _ HD1.out)] at hc1
    go_simp
    obtain ⟨h0, h1, h2, h3, h4, h5, h6, h7, h8, h9, h10, h11, h12, h13, h14, h16, h17, h18, gi15, gi19, gi14, gi13, gi12, gB, gC, gF⟩ := HI.out
    exact hK'.out _ _ ⟨.mk .., rfl, rfl, h0, h1, h2, h3, h4, h5, h6, h7, h8, h9, h10, h11, h12, h13, (fun _ => rfl), h16, h17, h18, (fun e => by cases e), gi19, (fun _ => (gi13 e13)), gi13, gi12, gB, gC, gF⟩
  · obtain ⟨rfl, e5, e14⟩ : b15 = false ∧ b5 = true ∧ b14 = true := by revert hp; cases b15 <;> cases b5 <;> cases b14 <;> simp
    clear hp
    obtain rfl := (HI.out.2.2.2.2.2.1) e5
    obtain rfl := (HI.out.2.2.2.2.2.2.2.2.2.2.2.2.2.2.1) e14
    refine inv_op (o := ⟨some 19, _, _, _, _, _⟩) rfl (fun K' hK' => ?_)
    have gi19 := HI.out.2.2.2.2.2.2.2.2.2.2.2.2.2.2.2.2.2.2.2.1
    have gB := HI.out.2.2.2.2.2.2.2.2.2.2.2.2.2.2.2.2.2.2.2.2.2.2.2.1
    have hbf19 : b19 = false := by cases b19 with | false => rfl | true => exact absurd ((gi19 rfl)) (by decide)
    subst hbf19
    have hgb := gB rfl
    refine step_append_grew W rfl (.tmp 9) (.tmp 18) 22 rfl B 3 ic (.int .i64 0) 1 8 Tryz.underlying22 hic hcz0 hcz1 hcz2 rfl (by decide) (by decide) _ _ _ rfl (HW.out.isq.free.below hgb) ⟨gd, 0, none⟩ m dc (ds.map (Value.int .i64)) rfl HM.out (ints_news (HOD.out.below hgb)) (ints_one ds) HCL.out (Nat.le_trans HBB.out hgb.size) ?_
    intro F2 w2 hgr
    obtain ⟨fa2, fc2, rfl, hq1, hq2⟩ := owns_slice hgr.own
    clear hq1 hq2
    obtain ⟨h0, h1, h2, h3, h4, h5, h6, h7, h8, h9, h10, h11, h12, h13, h14, h16, h17, h18, gi15, gi19, gi14, gi13, gi12, gB, gC, gF⟩ := HI.out
    exact hK'.out _ _ ⟨.mk .., rfl, rfl, h0, h1, h2, h3, h4, h5, h6, h7, h8, h9, h10, h11, h12, h13, h14, h16, h17, h18, (fun _ => ⟨e5, (gi14 e14), e14⟩), (fun e => by cases e), gi14, gi13, gi12, (fun e => by cases e), (fun _ _ => ⟨fa2, fc2, W, rfl, hgb, hgr⟩), (fun e => by cases e)⟩
  · obtain ⟨rfl, e0⟩ : b16 = false ∧ b0 = true := by revert hp; cases b16 <;> cases b0 <;> simp
    clear hp
    obtain rfl := (HI.out.1) e0
    refine inv_op (o := ⟨some 20, _, _, _, _, _⟩) rfl (fun K' hK' => ?_)
    go_simp
    exact hK'.out _ _ ⟨.mk .., rfl, rfl, Nxt (Nxt (Nxt (Nx4 (Nx4 (Nx4 (Upd (fun _ => rfl))))))) HI.out⟩
  · obtain ⟨rfl, e16⟩ : b17 = false ∧ b16 = true := by revert hp; cases b17 <;> cases b16 <;> simp
    clear hp
    obtain rfl := (HI.out.2.2.2.2.2.2.2.2.2.2.2.2.2.2.2.1) e16
    refine inv_op (o := ⟨some 21, _, _, _, _, _⟩) rfl (fun K' hK' => ?_)
    go_simp
    exact hK'.out _ _ ⟨.mk .., rfl, rfl, Nx16 (Upd (fun _ => rfl)) HI.out⟩
  · obtain ⟨rfl, e17⟩ : b18 = false ∧ b17 = true := by revert hp; cases b18 <;> cases b17 <;> simp
    clear hp
    obtain rfl := (HI.out.2.2.2.2.2.2.2.2.2.2.2.2.2.2.2.2.1) e17
    refine inv_op (o := ⟨some 22, _, _, _, _, _⟩) rfl (fun K' hK' => ?_)
    go_simp
    exact hK'.out _ _ ⟨.mk .., rfl, rfl, Nxt (Nx16 (Upd (fun _ => rfl))) HI.out⟩
  · obtain ⟨rfl, e15, e18⟩ : b19 = false ∧ b15 = true ∧ b18 = true := by revert hp; cases b19 <;> cases b15 <;> cases b18 <;> simp
    clear hp
    obtain rfl := (HI.out.2.2.2.2.2.2.2.2.2.2.2.2.2.2.2.2.2.1) e18
    refine inv_op (o := ⟨none, _, _, _, _, _⟩) rfl (fun K' hK' => ?_)
    have gC := HI.out.2.2.2.2.2.2.2.2.2.2.2.2.2.2.2.2.2.2.2.2.2.2.2.2.1
    obtain ⟨fa2, fc2, Wp, rfl, hbp, hgr⟩ := gC rfl e15
    obtain ⟨⟨hc0, hc1, hc2, hc3, hc4, hc5, hc6⟩, hz0, hz1, hz2, hz3, hz4, hz5, hz6⟩ := cells_seven (hgr.other (HW.out.isq.free.below hbp) (row_keep HW.out.row hbp) twI)
    have hlx := (Array.getElem?_eq_some_iff.1 (hgr.other (HW.out.isq.free.below hbp) (row_keep HW.out.row hbp) twI)).1
    go_simp
    obtain ⟨h0, h1, h2, h3, h4, h5, h6, h7, h8, h9, h10, h11, h12, h13, h14, h16, h17, h18, gi15, gi19, gi14, gi13, gi12, gB, gC, gF⟩ := HI.out
    exact hK'.out _ _ ⟨.mk .., rfl, rfl, h0, h1, h2, h3, h4, h5, h6, h7, h8, h9, h10, h11, h12, h13, h14, h16, h17, h18, gi15, (fun _ => e15), gi14, gi13, gi12, (fun e => absurd (e15.symm.trans e) (by decide)), (fun e => by cases e), (fun _ => ⟨fa2, fc2, Wp, W, rfl, hbp, hgr⟩)⟩
 case hdone =>
  rintro ⟨b0, b1, b2, b3, b4, b5, b6, b7, b8, b9, b10, b11, b12, b13, b14, b15, b16, b17, b18, b19, s4, s5, s6, s7, s8, s9, s10, s11, s12, s13, s14, s15, s16, s17, s18, s19, s20, s21, s22⟩ W hI hall
  dsimp only at hI hall ⊢
  have HI := Lib.hid hI
  clear hI
  obtain rfl : b0 = true := hall 0 (by decide)
  obtain rfl : b1 = true := hall 1 (by decide)
  obtain rfl : b2 = true := hall 2 (by decide)
  obtain rfl : b3 = true := hall 3 (by decide)
  obtain rfl : b4 = true := hall 4 (by decide)
  obtain rfl : b5 = true := hall 5 (by decide)
  obtain rfl : b6 = true := hall 6 (by decide)
  obtain rfl : b7 = true := hall 7 (by decide)
  obtain rfl : b8 = true := hall 8 (by decide)
  obtain rfl : b9 = true := hall 9 (by decide)
  obtain rfl : b10 = true := hall 10 (by decide)
  obtain rfl : b11 = true := hall 11 (by decide)
  obtain rfl : b12 = true := hall 12 (by decide)
  obtain rfl : b13 = true := hall 13 (by decide)
  obtain rfl : b14 = true := hall 14 (by decide)
  obtain rfl : b15 = true := hall 15 (by decide)
  obtain rfl : b16 = true := hall 16 (by decide)
  obtain rfl : b17 = true := hall 17 (by decide)
  obtain rfl : b18 = true := hall 18 (by decide)
  obtain rfl : b19 = true := hall 19 (by decide)
  have gF := HI.out.2.2.2.2.2.2.2.2.2.2.2.2.2.2.2.2.2.2.2.2.2.2.2.2.2
  clear HI hall
  obtain ⟨fa2, fc2, Wp, w6, rfl, hbp, hgr⟩ := gF rfl
  have hwp := HW.out.below hbp
  have hw6 := hgr.other hwp.isq.free hwp.row twI
  have hg6 : Grew B Wp w6 (.slice fa fn fc) (.slice fa2 (fr.length + m) fc2) 3 1 (fr ++ ds).length ((fr ++ ds).map (Value.int .i64)) := by
   rw [List.map_append, List.length_append, HMM.out]
   exact hgr
  have HW7 := Lib.hid (WorkB.growF (free := fr ++ ds) hwp hg6)
  have HS7 := Lib.hid (((Spare.of_below hbp HBB.out _).trans (Spare.grew (T := dirtyQ) hgr hwp.isq.free rfl)).trans (Spare.set (i := 2) (u := .slice fa2 (fr.length + m) fc2) hw6 rfl HW.out.lo))
  clear gF hw6 hg6 hgr hwp hbp
  obtain ⟨w7, hw7⟩ : ∃ x, x = w6.setCell ⟨g, 2, none⟩ (.slice fa2 (fr.length + m) fc2) := ⟨_, rfl⟩
  rw [← hw7] at HW7 HS7 ⊢
  clear hw7
  obtain ⟨gf, fcur, hfa, q1, q2, hfrow, q3, q4, q5⟩ := HW7.out.isq.free.lie (by have := HNE.out; simp only; intro h; exact this (List.append_eq_nil_iff.1 h).2)
  subst hfa
  have HF7 := Lib.hid hfrow
  have HQ7 := Lib.hid q1
  obtain ⟨⟨l0, l1, l2, l3, l4, l5, l6⟩, z0, z1, z2, z3, z4, z5, z6⟩ := cells_seven HW7.out.row
  clear q1 q2 hfrow q3 q4 q5 z0 z1 z2 z3 z4 z5 z6
  go_wp2_with fail
  refine (sort_any gf _ fc2 (fr ++ ds) _ HW7.out.isq.free (by rw [List.length_append, HMM.out]; exact HCL.out)).mono ?_
  rintro e w8 ⟨rfl, ho, ht⟩
  have HW8 := Lib.hid (HW7.out.sortF ht HF7.out ho)
  have HS8 := Lib.hid (HS7.out.trans (Spare.turn ht HF7.out rfl HQ7.out))
  clear ho ht HW7 HS7 HF7 HQ7 l0 l1 l2 l3 l4 l5 l6
  obtain ⟨⟨l0, l1, l2, l3, l4, l5, l6⟩, z0, z1, z2, z3, z4, z5, z6⟩ := cells_seven HW8.out.row
  have hlg := (Array.getElem?_eq_some_iff.1 HW8.out.row).1
  obtain ⟨gc', ccur2, hga, q1, q2, hcrow2, q3, q4, q5⟩ := HW8.out.isq.chains.lie (by have := HI.out; show 0 < ch.length; omega)
  obtain rfl : gc = gc' := by injection hga with hga; injection hga with hga _
  have HC8 := Lib.hid hcrow2
  have HQ8 := Lib.hid q1
  clear hga q1 q2 hcrow2 q3 q4 q5 z0 z1 z2 z3 z4 z5 z6
  go_wp2_with fail
  refine (deleteC_any gc cn cc i ch D _ HW8.out.isq.chains HI.out HCC.out).mono ?_
  rintro e w9 ⟨m9, rfl, ho, ht⟩
  have hr9 := ht.wk HW8.out HC8.out tChW
  have HW9 := Lib.hid (HW8.out.pop ht HC8.out ho)
  have HS9 := Lib.hid ((HS8.out.trans (Spare.turn ht HC8.out rfl HQ8.out)).trans (Spare.set (i := 5) (u := .slice (some ⟨gc, 0, none⟩) m9 cc) hr9 rfl HW8.out.lo))
  clear l0 l1 l2 l3 l4 l5 l6 hlg
  obtain ⟨⟨l0, l1, l2, l3, l4, l5, l6⟩, z0, z1, z2, z3, z4, z5, z6⟩ := cells_seven hr9
  have hlg := (Array.getElem?_eq_some_iff.1 hr9).1
  clear hr9 ho ht
  go_wp2
  refine bodyPost_end (v := .tuple #[]) (by simp [results, Tryz.results38]) rfl ⟨_, _, _, rfl, HW9.out, HS9.out⟩
end Go.Proofs.YtnmekbbnglkmcaaGreat
namespace Go.Proofs.YtnmekbbnglkmcaaGreat
open Go.RowKit Go.Lib
def PollSpec (l : List UInt8) (B N : Nat) (q q2 : QQ) (x y E : Int) : Prop :=
 (aheadQ l B N q = 0 ∧ q2 = q ∧ x = 0 ∧ y = 0 ∧ E = 7) ∨ (q.chains.length < aheadQ l B N q ∧ q2 = { q with last := usedI l B N } ∧ x = 0 ∧ y = 0 ∧ E = 80) ∨
 (0 < aheadQ l B N q ∧ aheadQ l B N q ≤ q.chains.length ∧ (∀ c ∈ q.chains, isUsed (usedE l B N q.last 0) (usedE l B N q.last 4) c = false) ∧ q2 = { q with last := (q.last + 1) % 65536 } ∧ x = 0 ∧ y = 0 ∧ E = 80) ∨
 (0 < aheadQ l B N q ∧ aheadQ l B N q ≤ q.chains.length ∧ ∃ i c, q.chains[i]? = some c ∧ isUsed (usedE l B N q.last 0) (usedE l B N q.last 4) c = true ∧ q2 = relQ { q with last := (q.last + 1) % 65536 } i ∧ x = (usedE l B N q.last 0 : Nat) ∧ y = (usedE l B N q.last 4 : Nat) ∧ E = 0)
theorem usedI_lt (l : List UInt8) (B N : Nat) : usedI l B N < 65536 := numAt_lt _ _ 2
theorem usedE_lt (l : List UInt8) (B N k o : Nat) : usedE l B N k o < 4294967296 := numAt_lt _ _ 4
structure QuePollA where
 (b0 b1 b2 b3 b4 b5 b6 b7 b8 b9 b10 b11 b12 b13 : Bool)
 (s49 s50 s51 s52 s53 s54 s55 s56 s57 s58 s5 s6 s7 : Value)
set_option maxHeartbeats 4000000 in
set_option maxRecDepth 100000 in
theorem poll_none (q : QQ) (N bq t x0 x1 : Nat) (E : Int) (F C v : Value) (D : List Value) (l : List UInt8) (w : World) (hv : OwnB 0 w v l) (hq : IsQ 0 w F C q D) (hg : GoodQ q N) (hbq : q.base = (bq : Nat)) (hok : RingOk l.length bq N) (hs : SeenSpec l bq N q t x0 x1 E)  (he : E = 7 ∨ E = 80) :
 Calls Tryz.prog 14 #[.agg #[v], .agg #[.int .i64 q.base, .int .i64 q.size, F, .int .u16 (q.avail : Nat), .int .u16 (q.last : Nat), C]] w fun e w' => ∃ F2 C2 D2, e = .returned (.tuple #[.agg #[.int .i64 q.base, .int .i64 q.size, F2, .int .u16 (q.avail : Nat), .int .u16 (t : Nat), C2], .int .i64 0, .int .i64 0, .int .i64 E]) ∧ IsQ 0 w' F2 C2 { q with last := t } D2 ∧ Below w.heap.size w w' := by
 obtain ⟨few1, few2, few3, few4, few5⟩ := hg.few
 obtain ⟨fa, fn, fc, ca, cn, cc, rfl, rfl, hfn, hcn, k1, k2, k3, k4⟩ := hq.shape
 have hzN := hg.size
 obtain ⟨b, z, fr, av, la, ch⟩ := q
 simp only at *
 subst hbq
 subst hzN
 obtain ⟨va, vc, rfl, hv1, hv2⟩ := hv.shape
 obtain ⟨L, hL⟩ : ∃ L, L = l.length := ⟨_, rfl⟩
 rw [← hL] at hv hok hv1 ⊢
 obtain ⟨t0, t1, t2, t4⟩ := three_boxes w #[.slice va L vc] #[.int .i64 (bq : Nat), .int .i64 (N : Nat), .slice fa fn fc, .int .u16 (av : Nat), .int .u16 (la : Nat), .slice ca cn cc] #[.int .i64 0, .int .i64 0, .slice none 0 0, .int .u16 0, .int .u16 0, .slice none 0 0] 26 30 30
 have HR := Lib.hid t2
 have HB := Lib.hid t4
 have HQ := Lib.hid (hq.below t4)
 have HO := Lib.hid (hv.below t4)
 have HG := Lib.hid hg
 have HOK := Lib.hid hok
 have HLL := Lib.hid hL.symm
 have HSS := Lib.hid hs
 have HBS := Lib.hid (show (((w.alloc (.cells #[.slice va L vc] 26)).alloc (.cells #[.int .i64 (bq : Nat), .int .i64 (N : Nat), .slice fa fn fc, .int .u16 (av : Nat), .int .u16 (la : Nat), .slice ca cn cc] 30)).alloc (.cells #[.int .i64 0, .int .i64 0, .slice none 0 0, .int .u16 0, .int .u16 0, .slice none 0 0] 30)).heap.size = w.heap.size + 3 by simp)
 clear hq hg hv hok hs hfn hcn k1 k2 k3 k4 hv1 hv2 hL t0 t1 t2 t4 few1 few2 few3 few4 few5
 go_enter Tryz.func14, Tryz.ntmps14
 go_wp2_with fail
 refine (begin_any ⟨(bq : Nat), (N : Nat), fr, av, la, ch⟩ N _ _ _ D l _ HO.out HQ.out HG.out (by rw [HLL.out]; exact HOK.out.ok)).mono ?_
 rintro e w1 ⟨g, F2, C2, E2, rfl, hw, hb⟩
 obtain ⟨f2, n2, k2, c2, m2, j2, rfl, rfl, q1, q2, q3, q4, q5, q6⟩ := hw.isq.shape
 clear q1 q2 q3 q4 q5 q6
 have HR1 := Lib.hid (row_keep HR.out hb)
 have HB1 := Lib.hid (HB.out.trans (hb.mono HB.out.size))
 rw [HBS.out] at hw
 have HW1 := Lib.hid hw
 have HS1 := Lib.hid (show w.heap.size + 3 ≤ w1.heap.size by have := hb.size; rw [HBS.out] at this; exact this)
 clear hw hb HR HB HQ HO
 go_wp2_with fail
 refine (seeUsed_any (w.heap.size + 3) g N bq t x0 x1 ⟨(bq : Nat), (N : Nat), fr, av, la, ch⟩ _ _ _ _ l (E) _ HW1.out HG.out rfl (by rw [HLL.out]; exact HOK.out) HSS.out HS1.out).mono ?_
 rintro e w2 ⟨rfl, hw, hs⟩
 have HR2 := Lib.hid (hs.row _ _ _ _ HR1.out rfl)
 have HB2 := Lib.hid (HB1.out.trans (hs.below.mono (by omega)))
 have HW2 := Lib.hid hw
 have HS2 := Lib.hid (Nat.le_trans HS1.out hs.size)
 clear hw hs HR1 HB1 HW1 HS1
 obtain ⟨UB, hUB⟩ : ∃ o : Obj, o = (.cells #[.int .u32 (x0 : Nat), .int .u32 (x1 : Nat)] 53) := ⟨_, rfl⟩
 have hal : Below w2.heap.size w2 (w2.alloc UB) := (Below.refl _ _).alloc (Nat.le_refl _) _
 have HU3 := Lib.hid (show (w2.alloc UB).heap[w2.heap.size]? = some (.cells #[.int .u32 (x0 : Nat), .int .u32 (x1 : Nat)] 53 (0, 0)) from by rw [hUB]; exact heap_alloc_new w2 _)
 have HR3 := Lib.hid (row_keep HR2.out hal)
 have HB3 := Lib.hid (HB2.out.trans (hal.mono HB2.out.size))
 have HW3 := Lib.hid (HW2.out.below hal)
 have HS3 := Lib.hid (Nat.le_trans HS2.out hal.size)
 rw [hUB] at HU3 HR3 HB3 HW3 HS3
 clear hal hUB UB
 rcases he with rfl | rfl
 all_goals
  obtain ⟨⟨l0, l1, l2, l3, l4, l5, l6⟩, _⟩ := cells_seven HW3.out.row
  obtain ⟨⟨r0, r1, r2, r3, r4, r5⟩, y0, y1, y2, y3, y4, y5⟩ := cells_six HR3.out
  have hlr := (Array.getElem?_eq_some_iff.1 HR3.out).1
  go_wp2
  refine bodyPost_ret (v := .tuple #[.agg #[.int .i64 (bq : Nat), .int .i64 (N : Nat), .slice f2 n2 k2, .int .u16 (av : Nat), .int .u16 (t : Nat), .slice c2 m2 j2], .int .i64 0, .int .i64 0, .int .i64 (_)]) (by simp [results, Tryz.results14, go_sem, r0, r1, r2, r3, r4, r5]) rfl ⟨_, _, _, rfl, six_q (HW3.out.isq.base (Nat.zero_le _)) HR3.out tqI tqC _ _ _ _ _ _, six_below HB3.out (by omega) _ _ _ _ _ _⟩
set_option maxHeartbeats 4000000 in
set_option maxRecDepth 100000 in
theorem poll_used (q : QQ) (N bq t x0 x1 : Nat) (E : Int) (F C v : Value) (D : List Value) (l : List UInt8) (w : World) (hv : OwnB 0 w v l) (hq : IsQ 0 w F C q D) (hg : GoodQ q N) (hbq : q.base = (bq : Nat)) (hok : RingOk l.length bq N) (hs : SeenSpec l bq N q t x0 x1 E) (he : E = 0) (hn0 : x0 < 4294967296) (hn1 : x1 < 4294967296) (ht : t < 65536) :
 Calls Tryz.prog 14 #[.agg #[v], .agg #[.int .i64 q.base, .int .i64 q.size, F, .int .u16 (q.avail : Nat), .int .u16 (q.last : Nat), C]] w fun e w' => (∃ F2 C2 D2, e = .returned (.tuple #[.agg #[.int .i64 q.base, .int .i64 q.size, F2, .int .u16 (q.avail : Nat), .int .u16 (t : Nat), C2], .int .i64 0, .int .i64 0, .int .i64 80]) ∧ (∀ c ∈ q.chains, isUsed x0 x1 c = false) ∧ IsQ 0 w' F2 C2 { q with last := t } D2 ∧ Below w.heap.size w w') ∨ (∃ i c F2 C2 D2, e = .returned (.tuple #[.agg #[.int .i64 q.base, .int .i64 q.size, F2, .int .u16 (q.avail : Nat), .int .u16 (t : Nat), C2], .int .i64 (x0 : Nat), .int .i64 (x1 : Nat), .int .i64 0]) ∧ q.chains[i]? = some c ∧ isUsed x0 x1 c = true ∧ IsQ 0 w' F2 C2 (relQ { q with last := t } i) D2 ∧ Below w.heap.size w w') := by
 subst he
 have H0 := Lib.hid hn0
 have H1 := Lib.hid hn1
 have HG2 := Lib.hid (hg.seen ht)
 clear ht
 have hx0 : IntKind.i64.wrap ((x0 : Nat) : Int) = (x0 : Nat) := IntWalk.i64_in _ (by omega)
 have hx1 : IntKind.i64.wrap ((x1 : Nat) : Int) = (x1 : Nat) := IntWalk.i64_in _ (by omega)
 obtain ⟨few1, few2, few3, few4, few5⟩ := hg.few
 obtain ⟨fa, fn, fc, ca, cn, cc, rfl, rfl, hfn, hcn, k1, k2, k3, k4⟩ := hq.shape
 have hzN := hg.size
 obtain ⟨b, z, fr, av, la, ch⟩ := q
 simp only at *
 subst hbq
 subst hzN
 obtain ⟨va, vc, rfl, hv1, hv2⟩ := hv.shape
 obtain ⟨L, hL⟩ : ∃ L, L = l.length := ⟨_, rfl⟩
 rw [← hL] at hv hok hv1 ⊢
 obtain ⟨t0, t1, t2, t4⟩ := three_boxes w #[.slice va L vc] #[.int .i64 (bq : Nat), .int .i64 (N : Nat), .slice fa fn fc, .int .u16 (av : Nat), .int .u16 (la : Nat), .slice ca cn cc] #[.int .i64 0, .int .i64 0, .slice none 0 0, .int .u16 0, .int .u16 0, .slice none 0 0] 26 30 30
 have HR := Lib.hid t2
 have HB := Lib.hid t4
 have HQ := Lib.hid (hq.below t4)
 have HO := Lib.hid (hv.below t4)
 have HG := Lib.hid hg
 have HOK := Lib.hid hok
 have HLL := Lib.hid hL.symm
 have HSS := Lib.hid hs
 have HBS := Lib.hid (show (((w.alloc (.cells #[.slice va L vc] 26)).alloc (.cells #[.int .i64 (bq : Nat), .int .i64 (N : Nat), .slice fa fn fc, .int .u16 (av : Nat), .int .u16 (la : Nat), .slice ca cn cc] 30)).alloc (.cells #[.int .i64 0, .int .i64 0, .slice none 0 0, .int .u16 0, .int .u16 0, .slice none 0 0] 30)).heap.size = w.heap.size + 3 by simp)
 clear hq hg hv hok hs hfn hcn k1 k2 k3 k4 hv1 hv2 hL t0 t1 t2 t4 few1 few2 few3 few4 few5
 go_enter Tryz.func14, Tryz.ntmps14
 go_wp2_with fail
 refine (begin_any ⟨(bq : Nat), (N : Nat), fr, av, la, ch⟩ N _ _ _ D l _ HO.out HQ.out HG.out (by rw [HLL.out]; exact HOK.out.ok)).mono ?_
 rintro e w1 ⟨g, F2, C2, E2, rfl, hw, hb⟩
 obtain ⟨f2, n2, k2, c2, m2, j2, rfl, rfl, q1, q2, q3, q4, q5, q6⟩ := hw.isq.shape
 clear q1 q2 q3 q4 q5 q6
 have HR1 := Lib.hid (row_keep HR.out hb)
 have HB1 := Lib.hid (HB.out.trans (hb.mono HB.out.size))
 rw [HBS.out] at hw
 have HW1 := Lib.hid hw
 have HS1 := Lib.hid (show w.heap.size + 3 ≤ w1.heap.size by have := hb.size; rw [HBS.out] at this; exact this)
 clear hw hb HR HB HQ HO
 go_wp2_with fail
 refine (seeUsed_any (w.heap.size + 3) g N bq t x0 x1 ⟨(bq : Nat), (N : Nat), fr, av, la, ch⟩ _ _ _ _ l (0) _ HW1.out HG.out rfl (by rw [HLL.out]; exact HOK.out) HSS.out HS1.out).mono ?_
 rintro e w2 ⟨rfl, hw, hs⟩
 have HR2 := Lib.hid (hs.row _ _ _ _ HR1.out rfl)
 have HB2 := Lib.hid (HB1.out.trans (hs.below.mono (by omega)))
 have HW2 := Lib.hid hw
 have HS2 := Lib.hid (Nat.le_trans HS1.out hs.size)
 clear hw hs HR1 HB1 HW1 HS1
 obtain ⟨UB, hUB⟩ : ∃ o : Obj, o = (.cells #[.int .u32 (x0 : Nat), .int .u32 (x1 : Nat)] 53) := ⟨_, rfl⟩
 have hal : Below w2.heap.size w2 (w2.alloc UB) := (Below.refl _ _).alloc (Nat.le_refl _) _
 have HU3 := Lib.hid (show (w2.alloc UB).heap[w2.heap.size]? = some (.cells #[.int .u32 (x0 : Nat), .int .u32 (x1 : Nat)] 53 (0, 0)) from by rw [hUB]; exact heap_alloc_new w2 _)
 have HR3 := Lib.hid (row_keep HR2.out hal)
 have HB3 := Lib.hid (HB2.out.trans (hal.mono HB2.out.size))
 have HW3 := Lib.hid (HW2.out.below hal)
 have HS3 := Lib.hid (Nat.le_trans HS2.out hal.size)
 rw [hUB] at HU3 HR3 HB3 HW3 HS3
 clear hal hUB UB
 obtain ⟨u0, u1, _⟩ := cells_two HU3.out
 go_wp2_with fail
 refine (find_any (w.heap.size + 3) g _ N _ _ _ _ l x0 x1 H0.out H1.out _ HW3.out HG2.out).mono ?_
 rintro e w4 ⟨zz, rfl, hz, hb⟩
 have HR4 := Lib.hid (row_keep HR3.out hb)
 have HU4 := Lib.hid (row_keep HU3.out hb)
 have HB4 := Lib.hid (HB3.out.trans (hb.mono HB3.out.size))
 have HW4 := Lib.hid (HW3.out.below hb)
 have HS4 := Lib.hid (Nat.le_trans HS3.out hb.size)
 clear hb u0 u1 HR3 HU3 HB3 HW3 HS3
 rcases hz with ⟨rfl, hz⟩ | ⟨i, c, rfl, hc, hz⟩
 · have HZ := Lib.hid hz
   clear hz
   obtain ⟨⟨l0, l1, l2, l3, l4, l5, l6⟩, _⟩ := cells_seven HW4.out.row
   obtain ⟨⟨r0, r1, r2, r3, r4, r5⟩, y0, y1, y2, y3, y4, y5⟩ := cells_six HR4.out
   have hlr := (Array.getElem?_eq_some_iff.1 HR4.out).1
   go_wp2
   refine bodyPost_ret (v := .tuple #[.agg #[.int .i64 (bq : Nat), .int .i64 (N : Nat), .slice f2 n2 k2, .int .u16 (av : Nat), .int .u16 (t : Nat), .slice c2 m2 j2], .int .i64 0, .int .i64 0, .int .i64 (80)]) (by simp [results, Tryz.results14, go_sem, r0, r1, r2, r3, r4, r5]) rfl (.inl ⟨_, _, _, rfl, HZ.out, six_q (HW4.out.isq.base (Nat.zero_le _)) HR4.out tqI tqC _ _ _ _ _ _, six_below HB4.out (by omega) _ _ _ _ _ _⟩)
 · have hneg : decide (((i : Nat) : Int) < 0) = false := decide_eq_false (by omega)
   have HC := Lib.hid hc
   have HZ := Lib.hid hz
   clear hc hz
   go_wp2_with fail
   refine (release_any (w.heap.size + 3) g i _ N _ _ _ _ l c _ HW4.out HG2.out HC.out HS4.out).mono ?_
   rintro e w5 ⟨F5, C5, E5, rfl, hw, hs⟩
   obtain ⟨qq, hqq⟩ : ∃ x, x = relQ ⟨(bq : Nat), (N : Nat), fr, av, t, ch⟩ i := ⟨_, rfl⟩
   have hrow := hw.row
   rw [← hqq] at hw
   obtain ⟨f5, n5, k5, c5, m5, j5, rfl, rfl, q1, q2, q3, q4, q5, q6⟩ := hw.isq.shape
   clear q1 q2 q3 q4 q5 q6
   have hqb : qq.base = (bq : Nat) ∧ qq.size = (N : Nat) ∧ qq.avail = av ∧ qq.last = t := by rw [hqq]; exact ⟨rfl, rfl, rfl, rfl⟩
   have HR5 := Lib.hid (hs.row _ _ _ _ HR4.out rfl)
   have HU5 := Lib.hid (hs.row _ _ _ _ HU4.out rfl)
   have HB5 := Lib.hid (HB4.out.trans (hs.below.mono (by omega)))
   have HI5 := Lib.hid hw.isq
   have HRW := Lib.hid hrow
   have HQQ := Lib.hid hqq
   clear hw hs hrow hqq hqb HR4 HU4 HB4 HW4 HS4
   go_wp2_with fail
   refine wp_region_rec (X := QuePollA) (by kernel_rfl) (by kernel_rfl) (fun x => #[x.b0, x.b1, x.b2, x.b3, x.b4, x.b5, x.b6, x.b7, x.b8, x.b9, x.b10, x.b11, x.b12, x.b13]) (fun x => { tmps := List.toArray ((.agg #[.slice va L vc]) :: (.agg #[.int .i64 (bq : Nat), .int .i64 (N : Nat), .slice fa fn fc, .int .u16 (av : Nat), .int .u16 (la : Nat), .slice ca cn cc]) :: (.pointer (some ⟨w.heap.size, 0, none⟩)) :: (.pointer (some ⟨w.heap.size + 1, 0, none⟩)) :: (.pointer (some ⟨w.heap.size + 1 + 1, 0, none⟩)) :: x.s5 :: x.s6 :: x.s7 :: (.pointer (some ⟨g, 0, none⟩)) :: (.int .i64 0) :: (.pointer (some ⟨w2.heap.size, 0, none⟩)) :: (.int .i64 (i : Nat)) :: (.tuple #[.pointer (some ⟨g, 0, none⟩), .int .i64 0]) :: (.agg #[.slice va L vc]) :: (.agg #[.int .i64 (bq : Nat), .int .i64 (N : Nat), .slice fa fn fc, .int .u16 (av : Nat), .int .u16 (la : Nat), .slice ca cn cc]) :: (.tuple #[.pointer (some ⟨g, 0, none⟩), .int .i64 0]) :: (.pointer (some ⟨g, 0, none⟩)) :: (.int .i64 0) :: (.int .i64 0) :: (.bool false) :: undef :: undef :: undef :: undef :: undef :: (.tuple #[.agg #[.int .u32 (x0 : Nat), .int .u32 (x1 : Nat)], .int .i64 0]) :: (.pointer (some ⟨g, 0, none⟩)) :: (.tuple #[.agg #[.int .u32 (x0 : Nat), .int .u32 (x1 : Nat)], .int .i64 0]) :: (.agg #[.int .u32 (x0 : Nat), .int .u32 (x1 : Nat)]) :: (.int .i64 0) :: (.int .i64 0) :: (.bool false) :: undef :: undef :: undef :: undef :: undef :: (.pointer (some ⟨g, 0, none⟩)) :: (.agg #[.int .u32 (x0 : Nat), .int .u32 (x1 : Nat)]) :: (.int .i64 (i : Nat)) :: (.int .i64 (i : Nat)) :: (.bool false) :: undef :: undef :: undef :: undef :: (.pointer (some ⟨g, 0, none⟩)) :: (.int .i64 (i : Nat)) :: (.tuple #[]) :: x.s49 :: x.s50 :: x.s51 :: x.s52 :: x.s53 :: x.s54 :: x.s55 :: x.s56 :: x.s57 :: x.s58 :: []), defers := [] }) (fun x W => (x.b0 = true → x.s49 = .pointer (some ⟨g, 0, none⟩)) ∧ (x.b1 = true → x.s50 = .pointer (some ⟨g, 0, none⟩)) ∧ (x.b2 = true → x.s51 = .pointer (some ⟨g, 0, none⟩)) ∧ (x.b3 = true → x.s52 = .agg #[.int .i64 (bq : Nat), .int .i64 (N : Nat), .slice f5 n5 k5, .int .u16 (av : Nat), .int .u16 (t : Nat), .slice c5 m5 j5]) ∧ (x.b4 = true → x.s53 = .pointer (some ⟨w2.heap.size, 0, none⟩)) ∧ (x.b5 = true → x.s54 = .int .u32 (x0 : Nat)) ∧ (x.b6 = true → x.s55 = .int .i64 (x0 : Nat)) ∧ (x.b7 = true → x.s56 = .pointer (some ⟨w2.heap.size, 1, none⟩)) ∧ (x.b8 = true → x.s57 = .int .u32 (x1 : Nat)) ∧ (x.b9 = true → x.s58 = .int .i64 (x1 : Nat)) ∧ (x.b11 = true → x.s5 = .int .i64 (x0 : Nat)) ∧ (x.b12 = true → x.s6 = .int .i64 (x1 : Nat)) ∧ (x.b13 = true → x.s7 = .int .i64 0) ∧ (W.heap[g]? = some (.cells #[.int .i64 (bq : Nat), .int .i64 (N : Nat), .slice f5 n5 k5, .int .u16 (av : Nat), .int .u16 (t : Nat), .slice c5 m5 j5, .slice va L vc] 74 (0, 0))) ∧ (W.heap[w2.heap.size]? = some (.cells #[.int .u32 (x0 : Nat), .int .u32 (x1 : Nat)] 53 (0, 0))) ∧ (x.b10 = false → W.heap[w.heap.size + 1 + 1]? = some (.cells #[.int .i64 0, .int .i64 0, .slice none 0 0, .int .u16 0, .int .u16 0, .slice none 0 0] 30 (0, 0))) ∧ (x.b10 = true → W.heap[w.heap.size + 1 + 1]? = some (.cells #[.int .i64 (bq : Nat), .int .i64 (N : Nat), .slice f5 n5 k5, .int .u16 (av : Nat), .int .u16 (t : Nat), .slice c5 m5 j5] 30 (0, 0))) ∧ (Below w.heap.size w W) ∧ (IsQ 0 W (.slice f5 n5 k5) (.slice c5 m5 j5) qq E5)) ⟨false, false, false, false, false, false, false, false, false, false, false, false, false, false, undef, undef, undef, undef, undef, undef, undef, undef, undef, undef, .int .i64 0, .int .i64 0, .int .i64 0⟩ rfl rfl ⟨(fun h => by cases h), (fun h => by cases h), (fun h => by cases h), (fun h => by cases h), (fun h => by cases h), (fun h => by cases h), (fun h => by cases h), (fun h => by cases h), (fun h => by cases h), (fun h => by cases h), (fun h => by cases h), (fun h => by cases h), (fun h => by cases h), HRW.out, HU5.out, (fun _ => HR5.out), (fun h => by cases h), HB5.out.drew, (HI5.out.base (Nat.zero_le _)).drew⟩ (fun _ => rfl) ?hstep ?hdone
   case hstep =>
    rintro ⟨b0, b1, b2, b3, b4, b5, b6, b7, b8, b9, b10, b11, b12, b13, s49, s50, s51, s52, s53, s54, s55, s56, s57, s58, s5, s6, s7⟩ W hI i hi
    dsimp only at hI hi ⊢
    have HI := Lib.hid hI
    clear hI
    rw [Region.ready, List.mem_filter, List.mem_range] at hi
    obtain ⟨hlt, hp⟩ := hi
    have hi7 : i = 0 ∨ i = 1 ∨ i = 2 ∨ i = 3 ∨ i = 4 ∨ i = 5 ∨ i = 6 ∨ i = 7 ∨ i = 8 ∨ i = 9 ∨ i = 10 ∨ i = 11 ∨ i = 12 ∨ i = 13 := by simp at hlt; omega
    clear hlt
    rcases hi7 with rfl | rfl | rfl | rfl | rfl | rfl | rfl | rfl | rfl | rfl | rfl | rfl | rfl | rfl
    all_goals simp [Region.binds] at hp
    · obtain rfl : b0 = false := by revert hp; cases b0 <;> simp
      clear hp
      refine inv_op (o := ⟨some 49, _, _, _, _, _⟩) rfl (fun K' hK' => ?_)
      go_simp
      exact hK'.out _ _ ⟨.mk .., rfl, rfl, (Upd (fun _ => rfl)) HI.out⟩
    · obtain ⟨rfl, e0⟩ : b1 = false ∧ b0 = true := by revert hp; cases b1 <;> cases b0 <;> simp
      clear hp
      obtain rfl := (HI.out.1) e0
      refine inv_op (o := ⟨some 50, _, _, _, _, _⟩) rfl (fun K' hK' => ?_)
      go_simp
      exact hK'.out _ _ ⟨.mk .., rfl, rfl, Nxt (Upd (fun _ => rfl)) HI.out⟩
    · obtain ⟨rfl, e1⟩ : b2 = false ∧ b1 = true := by revert hp; cases b2 <;> cases b1 <;> simp
      clear hp
      obtain rfl := (HI.out.2.1) e1
      refine inv_op (o := ⟨some 51, _, _, _, _, _⟩) rfl (fun K' hK' => ?_)
      go_simp
      exact hK'.out _ _ ⟨.mk .., rfl, rfl, Nxt (Nxt (Upd (fun _ => rfl))) HI.out⟩
    · obtain ⟨rfl, e2⟩ : b3 = false ∧ b2 = true := by revert hp; cases b3 <;> cases b2 <;> simp
      clear hp
      obtain rfl := (HI.out.2.2.1) e2
      refine inv_op (o := ⟨some 52, _, _, _, _, _⟩) rfl (fun K' hK' => ?_)
      have rW := HI.out.2.2.2.2.2.2.2.2.2.2.2.2.2.1
      obtain ⟨hc0, _⟩ := at_cell rW 0 _ rfl
      obtain ⟨hc1, _⟩ := at_cell rW 1 _ rfl
      obtain ⟨hc2, _⟩ := at_cell rW 2 _ rfl
      obtain ⟨hc3, _⟩ := at_cell rW 3 _ rfl
      obtain ⟨hc4, _⟩ := at_cell rW 4 _ rfl
      obtain ⟨hc5, _⟩ := at_cell rW 5 _ rfl
      go_simp
      exact hK'.out _ _ ⟨.mk .., rfl, rfl, Nxt (Nxt (Nxt (Upd (fun _ => rfl)))) HI.out⟩
    · obtain rfl : b4 = false := by revert hp; cases b4 <;> simp
      clear hp
      refine inv_op (o := ⟨some 53, _, _, _, _, _⟩) rfl (fun K' hK' => ?_)
      go_simp
      exact hK'.out _ _ ⟨.mk .., rfl, rfl, Nx4 (Upd (fun _ => rfl)) HI.out⟩
    · obtain ⟨rfl, e4⟩ : b5 = false ∧ b4 = true := by revert hp; cases b5 <;> cases b4 <;> simp
      clear hp
      obtain rfl := (HI.out.2.2.2.2.1) e4
      refine inv_op (o := ⟨some 54, _, _, _, _, _⟩) rfl (fun K' hK' => ?_)
      have rU := HI.out.2.2.2.2.2.2.2.2.2.2.2.2.2.2.1
      obtain ⟨hc0, _⟩ := at_cell rU 0 _ rfl
      go_simp
      exact hK'.out _ _ ⟨.mk .., rfl, rfl, Nxt (Nx4 (Upd (fun _ => rfl))) HI.out⟩
    · obtain ⟨rfl, e5⟩ : b6 = false ∧ b5 = true := by revert hp; cases b6 <;> cases b5 <;> simp
      clear hp
      obtain rfl := (HI.out.2.2.2.2.2.1) e5
      refine inv_op (o := ⟨some 55, _, _, _, _, _⟩) rfl (fun K' hK' => ?_)
      go_simp
      exact hK'.out _ _ ⟨.mk .., rfl, rfl, Nxt (Nxt (Nx4 (Upd (fun _ => rfl)))) HI.out⟩
    · obtain rfl : b7 = false := by revert hp; cases b7 <;> simp
      clear hp
      refine inv_op (o := ⟨some 56, _, _, _, _, _⟩) rfl (fun K' hK' => ?_)
      go_simp
      exact hK'.out _ _ ⟨.mk .., rfl, rfl, Nxt (Nxt (Nxt (Nx4 (Upd (fun _ => rfl))))) HI.out⟩
    · obtain ⟨rfl, e7⟩ : b8 = false ∧ b7 = true := by revert hp; cases b8 <;> cases b7 <;> simp
      clear hp
      obtain rfl := (HI.out.2.2.2.2.2.2.2.1) e7
      refine inv_op (o := ⟨some 57, _, _, _, _, _⟩) rfl (fun K' hK' => ?_)
      have rU := HI.out.2.2.2.2.2.2.2.2.2.2.2.2.2.2.1
      obtain ⟨hc1, _⟩ := at_cell rU 1 _ rfl
      go_simp
      exact hK'.out _ _ ⟨.mk .., rfl, rfl, Nx4 (Nx4 (Upd (fun _ => rfl))) HI.out⟩
    · obtain ⟨rfl, e8⟩ : b9 = false ∧ b8 = true := by revert hp; cases b9 <;> cases b8 <;> simp
      clear hp
      obtain rfl := (HI.out.2.2.2.2.2.2.2.2.1) e8
      refine inv_op (o := ⟨some 58, _, _, _, _, _⟩) rfl (fun K' hK' => ?_)
      go_simp
      exact hK'.out _ _ ⟨.mk .., rfl, rfl, Nxt (Nx4 (Nx4 (Upd (fun _ => rfl)))) HI.out⟩
    · obtain ⟨rfl, e3⟩ : b10 = false ∧ b3 = true := by revert hp; cases b10 <;> cases b3 <;> simp
      clear hp
      obtain rfl := (HI.out.2.2.2.1) e3
      refine inv_op (o := ⟨none, _, _, _, _, _⟩) rfl (fun K' hK' => ?_)
      have rQ0 := HI.out.2.2.2.2.2.2.2.2.2.2.2.2.2.2.2.1
      obtain ⟨hc0, hz0⟩ := at_cell (rQ0 rfl) 0 _ rfl
      obtain ⟨hc1, hz1⟩ := at_cell (rQ0 rfl) 1 _ rfl
      obtain ⟨hc2, hz2⟩ := at_cell (rQ0 rfl) 2 _ rfl
      obtain ⟨hc3, hz3⟩ := at_cell (rQ0 rfl) 3 _ rfl
      obtain ⟨hc4, hz4⟩ := at_cell (rQ0 rfl) 4 _ rfl
      obtain ⟨hc5, hz5⟩ := at_cell (rQ0 rfl) 5 _ rfl
      have hlt := (Array.getElem?_eq_some_iff.1 (rQ0 rfl)).1
      go_simp
      obtain ⟨h0, h1, h2, h3, h4, h5, h6, h7, h8, h9, h11, h12, h13, rW, rU, rQ0, rQ1, gB, gI⟩ := HI.out
      exact hK'.out _ _ ⟨.mk .., rfl, rfl, h0, h1, h2, h3, h4, h5, h6, h7, h8, h9, h11, h12, h13, (one_other (one_other (one_other (one_other (one_other (one_other rW ⟨w.heap.size + 1 + 1, 0, none⟩ (.int .i64 (bq : Nat)) (blocks_ne rW (rQ0 rfl) (by decide))) ⟨w.heap.size + 1 + 1, 1, none⟩ (.int .i64 (N : Nat)) (blocks_ne rW (rQ0 rfl) (by decide))) ⟨w.heap.size + 1 + 1, 2, none⟩ (.slice f5 n5 k5) (blocks_ne rW (rQ0 rfl) (by decide))) ⟨w.heap.size + 1 + 1, 3, none⟩ (.int .u16 (av : Nat)) (blocks_ne rW (rQ0 rfl) (by decide))) ⟨w.heap.size + 1 + 1, 4, none⟩ (.int .u16 (t : Nat)) (blocks_ne rW (rQ0 rfl) (by decide))) ⟨w.heap.size + 1 + 1, 5, none⟩ (.slice c5 m5 j5) (blocks_ne rW (rQ0 rfl) (by decide))), (one_other (one_other (one_other (one_other (one_other (one_other rU ⟨w.heap.size + 1 + 1, 0, none⟩ (.int .i64 (bq : Nat)) (blocks_ne rU (rQ0 rfl) (by decide))) ⟨w.heap.size + 1 + 1, 1, none⟩ (.int .i64 (N : Nat)) (blocks_ne rU (rQ0 rfl) (by decide))) ⟨w.heap.size + 1 + 1, 2, none⟩ (.slice f5 n5 k5) (blocks_ne rU (rQ0 rfl) (by decide))) ⟨w.heap.size + 1 + 1, 3, none⟩ (.int .u16 (av : Nat)) (blocks_ne rU (rQ0 rfl) (by decide))) ⟨w.heap.size + 1 + 1, 4, none⟩ (.int .u16 (t : Nat)) (blocks_ne rU (rQ0 rfl) (by decide))) ⟨w.heap.size + 1 + 1, 5, none⟩ (.slice c5 m5 j5) (blocks_ne rU (rQ0 rfl) (by decide))), (fun e => by cases e), (fun _ => (row_put (row_put (row_put (row_put (row_put (row_put (rQ0 rfl) 0 (.int .i64 (bq : Nat))) 1 (.int .i64 (N : Nat))) 2 (.slice f5 n5 k5)) 3 (.int .u16 (av : Nat))) 4 (.int .u16 (t : Nat))) 5 (.slice c5 m5 j5))), ((((((gB.setCell (p := ⟨w.heap.size + 1 + 1, 0, none⟩) (by show w.heap.size ≤ w.heap.size + 1 + 1; omega) (.int .i64 (bq : Nat))).setCell (p := ⟨w.heap.size + 1 + 1, 1, none⟩) (by show w.heap.size ≤ w.heap.size + 1 + 1; omega) (.int .i64 (N : Nat))).setCell (p := ⟨w.heap.size + 1 + 1, 2, none⟩) (by show w.heap.size ≤ w.heap.size + 1 + 1; omega) (.slice f5 n5 k5)).setCell (p := ⟨w.heap.size + 1 + 1, 3, none⟩) (by show w.heap.size ≤ w.heap.size + 1 + 1; omega) (.int .u16 (av : Nat))).setCell (p := ⟨w.heap.size + 1 + 1, 4, none⟩) (by show w.heap.size ≤ w.heap.size + 1 + 1; omega) (.int .u16 (t : Nat))).setCell (p := ⟨w.heap.size + 1 + 1, 5, none⟩) (by show w.heap.size ≤ w.heap.size + 1 + 1; omega) (.slice c5 m5 j5)), ((((((gI.stay (rQ0 rfl) tqI tqC 0 (.int .i64 (bq : Nat))).stay (row_put (rQ0 rfl) 0 (.int .i64 (bq : Nat))) tqI tqC 1 (.int .i64 (N : Nat))).stay (row_put (row_put (rQ0 rfl) 0 (.int .i64 (bq : Nat))) 1 (.int .i64 (N : Nat))) tqI tqC 2 (.slice f5 n5 k5)).stay (row_put (row_put (row_put (rQ0 rfl) 0 (.int .i64 (bq : Nat))) 1 (.int .i64 (N : Nat))) 2 (.slice f5 n5 k5)) tqI tqC 3 (.int .u16 (av : Nat))).stay (row_put (row_put (row_put (row_put (rQ0 rfl) 0 (.int .i64 (bq : Nat))) 1 (.int .i64 (N : Nat))) 2 (.slice f5 n5 k5)) 3 (.int .u16 (av : Nat))) tqI tqC 4 (.int .u16 (t : Nat))).stay (row_put (row_put (row_put (row_put (row_put (rQ0 rfl) 0 (.int .i64 (bq : Nat))) 1 (.int .i64 (N : Nat))) 2 (.slice f5 n5 k5)) 3 (.int .u16 (av : Nat))) 4 (.int .u16 (t : Nat))) tqI tqC 5 (.slice c5 m5 j5))⟩
    · obtain ⟨rfl, e6, e10⟩ : b11 = false ∧ b6 = true ∧ b10 = true := by revert hp; cases b11 <;> cases b6 <;> cases b10 <;> simp
      clear hp
      obtain rfl := (HI.out.2.2.2.2.2.2.1) e6
      refine inv_op (o := ⟨some 5, _, _, _, _, _⟩) rfl (fun K' hK' => ?_)
      go_simp
      exact hK'.out _ _ ⟨.mk .., rfl, rfl, Nxt (Nxt (Nx4 (Nx4 (Upd (fun _ => rfl))))) HI.out⟩
    · obtain ⟨rfl, e9, e11⟩ : b12 = false ∧ b9 = true ∧ b11 = true := by revert hp; cases b12 <;> cases b9 <;> cases b11 <;> simp
      clear hp
      obtain rfl := (HI.out.2.2.2.2.2.2.2.2.2.1) e9
      refine inv_op (o := ⟨some 6, _, _, _, _, _⟩) rfl (fun K' hK' => ?_)
      go_simp
      exact hK'.out _ _ ⟨.mk .., rfl, rfl, Nxt (Nxt (Nxt (Nx4 (Nx4 (Upd (fun _ => rfl)))))) HI.out⟩
    · obtain ⟨rfl, e12⟩ : b13 = false ∧ b12 = true := by revert hp; cases b13 <;> cases b12 <;> simp
      clear hp
      refine inv_op (o := ⟨some 7, _, _, _, _, _⟩) rfl (fun K' hK' => ?_)
      go_simp
      exact hK'.out _ _ ⟨.mk .., rfl, rfl, Nx4 (Nx4 (Nx4 (Upd (fun _ => rfl)))) HI.out⟩
   case hdone =>
    rintro ⟨b0, b1, b2, b3, b4, b5, b6, b7, b8, b9, b10, b11, b12, b13, s49, s50, s51, s52, s53, s54, s55, s56, s57, s58, s5, s6, s7⟩ W hI hall
    dsimp only at hI hall ⊢
    have HI := Lib.hid hI
    clear hI
    obtain rfl : b0 = true := hall 0 (by decide)
    obtain rfl : b1 = true := hall 1 (by decide)
    obtain rfl : b2 = true := hall 2 (by decide)
    obtain rfl : b3 = true := hall 3 (by decide)
    obtain rfl : b4 = true := hall 4 (by decide)
    obtain rfl : b5 = true := hall 5 (by decide)
    obtain rfl : b6 = true := hall 6 (by decide)
    obtain rfl : b7 = true := hall 7 (by decide)
    obtain rfl : b8 = true := hall 8 (by decide)
    obtain rfl : b9 = true := hall 9 (by decide)
    obtain rfl : b10 = true := hall 10 (by decide)
    obtain rfl : b11 = true := hall 11 (by decide)
    obtain rfl : b12 = true := hall 12 (by decide)
    obtain rfl : b13 = true := hall 13 (by decide)
    obtain rfl := (HI.out.2.2.2.2.2.2.2.2.2.2.1) rfl
    obtain rfl := (HI.out.2.2.2.2.2.2.2.2.2.2.2.1) rfl
    obtain rfl := (HI.out.2.2.2.2.2.2.2.2.2.2.2.2.1) rfl
    have rQ1 := HI.out.2.2.2.2.2.2.2.2.2.2.2.2.2.2.2.2.1
    have gB := HI.out.2.2.2.2.2.2.2.2.2.2.2.2.2.2.2.2.2.1
    have gI := HI.out.2.2.2.2.2.2.2.2.2.2.2.2.2.2.2.2.2.2
    clear HI hall
    obtain ⟨⟨r0, r1, r2, r3, r4, r5⟩, _⟩ := cells_six (rQ1 rfl)
    have HB6 := Lib.hid gB
    have HI6 := Lib.hid gI
    clear rQ1 gB gI
    go_wp2
    refine bodyPost_ret (v := .tuple #[.agg #[.int .i64 (bq : Nat), .int .i64 (N : Nat), .slice f5 n5 k5, .int .u16 (av : Nat), .int .u16 (t : Nat), .slice c5 m5 j5], .int .i64 (x0 : Nat), .int .i64 (x1 : Nat), .int .i64 0]) (by simp [results, Tryz.results14, go_sem, r0, r1, r2, r3, r4, r5]) rfl (.inr ⟨i, c, _, _, _, rfl, HC.out, HZ.out, by rw [← HQQ.out]; exact HI6.out, HB6.out⟩)
theorem poll_any (q : QQ) (N bq : Nat) (F C v : Value) (D : List Value) (l : List UInt8) (w : World) (hv : OwnB 0 w v l) (hq : IsQ 0 w F C q D) (hg : GoodQ q N) (hbq : q.base = (bq : Nat)) (hok : RingOk l.length bq N) :
 Calls Tryz.prog 14 #[.agg #[v], .agg #[.int .i64 q.base, .int .i64 q.size, F, .int .u16 (q.avail : Nat), .int .u16 (q.last : Nat), C]] w fun e w' => ∃ q2 x y E F2 C2 D2, e = .returned (.tuple #[.agg #[.int .i64 q2.base, .int .i64 q2.size, F2, .int .u16 (q2.avail : Nat), .int .u16 (q2.last : Nat), C2], .int .i64 x, .int .i64 y, .int .i64 E]) ∧ PollSpec l bq N q q2 x y E ∧ IsQ 0 w' F2 C2 q2 D2 ∧ Below w.heap.size w w' := by
 by_cases h0 : aheadQ l bq N q = 0
 · refine (poll_none q N bq q.last 0 0 7 F C v D l w hv hq hg hbq hok (.inl ⟨h0, rfl, rfl, rfl, rfl⟩) (.inl rfl)).mono ?_
   rintro e w' ⟨F2, C2, D2, rfl, h1, h2⟩
   exact ⟨q, 0, 0, 7, F2, C2, D2, rfl, .inl ⟨h0, rfl, rfl, rfl, rfl⟩, h1, h2⟩
 by_cases h1 : q.chains.length < aheadQ l bq N q
 · refine (poll_none q N bq (usedI l bq N) 0 0 80 F C v D l w hv hq hg hbq hok (.inr (.inl ⟨h1, rfl, rfl, rfl, rfl⟩)) (.inr rfl)).mono ?_
   rintro e w' ⟨F2, C2, D2, rfl, h2, h3⟩
   exact ⟨_, 0, 0, 80, F2, C2, D2, rfl, .inr (.inl ⟨h1, rfl, rfl, rfl, rfl⟩), h2, h3⟩
 have h2 : 0 < aheadQ l bq N q := by omega
 have h3 : aheadQ l bq N q ≤ q.chains.length := by omega
 refine (poll_used q N bq ((q.last + 1) % 65536) _ _ 0 F C v D l w hv hq hg hbq hok (.inr (.inr ⟨h2, h3, rfl, rfl, rfl, rfl⟩)) rfl (usedE_lt _ _ _ _ _) (usedE_lt _ _ _ _ _) (Nat.mod_lt _ (by decide))).mono ?_
 rintro e w' (⟨F2, C2, D2, rfl, h4, h5, h6⟩ | ⟨i, c, F2, C2, D2, rfl, h4, h5, h6, h7⟩)
 · exact ⟨_, 0, 0, 80, F2, C2, D2, rfl, .inr (.inr (.inl ⟨h2, h3, h4, rfl, rfl, rfl, rfl⟩)), h5, h6⟩
 · exact ⟨_, _, _, 0, F2, C2, D2, rfl, .inr (.inr (.inr ⟨h2, h3, i, c, h4, h5, rfl, rfl, rfl, rfl⟩)), h6, h7⟩
end Go.Proofs.YtnmekbbnglkmcaaGreat
namespace Go.Proofs.YtnmekbbnglkmcaaGreat
open Go.RowKit Go.Lib
def DescIs (l : List UInt8) (p a n f x : Nat) : Prop := numAt l p 8 = a ∧ numAt l (p + 8) 4 = n ∧ numAt l (p + 12) 2 = f ∧ numAt l (p + 14) 2 = x
def Chained (l : List UInt8) (B : Nat) (ds : List Int) (bs : List QB) : Prop :=
 ∀ k, k < bs.length → DescIs l (B + 16 * (ds.getD k 0).toNat) (bs.getD k (0, 0, false)).1.toNat (bs.getD k (0, 0, false)).2.1.toNat (flagOf (bs.getD k (0, 0, false)).2.2 (moreAt bs k)) (nextOf ds bs k)
theorem getD_in {ds : List Int} {N k : Nat} (hd : ∀ d ∈ ds, 0 ≤ d ∧ d < (N : Int)) (hk : k < ds.length) : 0 ≤ ds.getD k 0 ∧ ds.getD k 0 < (N : Int) := by
 have h3 : ds.getD k 0 = ds[k] := by simp [List.getD_eq_getElem?_getD, hk]
 rw [h3]
 exact hd _ (List.getElem_mem hk)
theorem nextOf_lt {ds : List Int} {bs : List QB} {N : Nat} (hd : ∀ d ∈ ds, 0 ≤ d ∧ d < (N : Int)) (hl : ds.length = bs.length) (hN : N ≤ 16) (k : Nat) : nextOf ds bs k < 65536 := by
 unfold nextOf
 by_cases h : k + 1 < bs.length
 · rw [if_pos h]
   have h1 := getD_in hd (show k + 1 < ds.length by omega)
   omega
 · rw [if_neg h]; decide
theorem flagOf_lt (t m : Bool) : flagOf t m < 65536 := by cases t <;> cases m <;> decide
theorem layK_chained {l : List UInt8} {B N : Nat} {ds : List Int} {bs : List QB} (hok : RingOk l.length B N) (hd : ∀ d ∈ ds, 0 ≤ d ∧ d < (N : Int)) (hn : ds.Nodup) (hl : ds.length = bs.length) (hb : ∀ x ∈ bs, InB l.length x) :
 ∀ m, m ≤ bs.length → ∀ k, k < m → DescIs (layK l B ds bs m) (B + 16 * (ds.getD k 0).toNat) (bs.getD k (0, 0, false)).1.toNat (bs.getD k (0, 0, false)).2.1.toNat (flagOf (bs.getD k (0, 0, false)).2.2 (moreAt bs k)) (nextOf ds bs k)
 | 0, _, k, hk => absurd hk (Nat.not_lt_zero _)
 | m + 1, hm, k, hk => by
   have hlen := layK_length (bs := bs) hok hd m (by omega)
   have hlie := hok.lie
   have hm1 := getD_in hd (show m < ds.length by omega)
   have hp : B + 16 * (ds.getD m 0).toNat + 16 ≤ (layK l B ds bs m).length := by rw [hlen]; omega
   rw [layK]
   by_cases e : k = m
   · subst e
     have hmem : bs.getD k (0, 0, false) ∈ bs := by
      rw [List.getD_eq_getElem?_getD, List.getElem?_eq_getElem (show k < bs.length by omega)]
      exact List.getElem_mem _
     obtain ⟨i1, i2, i3⟩ := hb _ hmem
     have hf := hok.few
     exact setD_there _ _ _ _ hp (by omega) (by omega) (flagOf_lt _ _) (nextOf_lt hd hl hlie.2.1 k)
   · have hk1 := getD_in hd (show k < ds.length by omega)
     have hne : ds.getD k 0 ≠ ds.getD m 0 := by
      intro e2
      have h3 : ds.getD k 0 = ds[k]'(by omega) := by simp [List.getD_eq_getElem?_getD, show k < ds.length by omega]
      have h4 : ds.getD m 0 = ds[m]'(by omega) := by simp [List.getD_eq_getElem?_getD, show m < ds.length by omega]
      rw [h3, h4] at e2
      exact e ((List.getElem_inj hn).1 e2)
     obtain ⟨g1, g2, g3, g4⟩ := layK_chained hok hd hn hl hb m (by omega) k (by omega)
     refine ⟨?_, ?_, ?_, ?_⟩
     · rw [setD_other _ _ _ _ hp (by omega)]; exact g1
     · rw [setD_other _ _ _ _ hp (by omega)]; exact g2
     · rw [setD_other _ _ _ _ hp (by omega)]; exact g3
     · rw [setD_other _ _ _ _ hp (by omega)]; exact g4
theorem GoodQ.nodup {q : QQ} {N : Nat} (h : GoodQ q N) : q.free.Nodup := by
 have h1 : (upN N).Nodup := (List.pairwise_map.2 ((List.pairwise_lt_range (n := N)).imp (fun h => by omega)) : (upN N).Pairwise (· < ·)).imp (fun h => Int.ne_of_lt h)
 exact (List.nodup_append.1 (h.perm.nodup_iff.2 h1)).1
theorem addM_chained {l : List UInt8} {B N : Nat} {q : QQ} {bs : List QB} (hok : RingOk l.length B N) (hg : GoodQ q N) (hn : bs.length ≤ q.free.length) (hb : ∀ x ∈ bs, InB l.length x) : Chained (addM l B N q bs) B (q.free.take bs.length) bs := by
 intro k hk
 have hd : ∀ d ∈ q.free.take bs.length, 0 ≤ d ∧ d < (N : Int) := fun d hd => hg.freeIn (List.mem_of_mem_take hd)
 have hl : (q.free.take bs.length).length = bs.length := by rw [List.length_take]; omega
 obtain ⟨g1, g2, g3, g4⟩ := layK_chained hok hd (List.Sublist.nodup (List.take_sublist _ _) hg.nodup) hl hb bs.length (Nat.le_refl _) k hk
 have h1 := layK_length (bs := bs) hok hd bs.length (by omega)
 have h2 := getD_in hd (show k < (q.free.take bs.length).length by omega)
 have hok2 : RingOk (layK l B (q.free.take bs.length) bs bs.length).length B N := by rw [h1]; exact hok
 have hlie := hok.lie
 unfold addM
 refine ⟨?_, ?_, ?_, ?_⟩
 · rw [offerD_other _ _ hok2 (by omega)]; exact g1
 · rw [offerD_other _ _ hok2 (by omega)]; exact g2
 · rw [offerD_other _ _ hok2 (by omega)]; exact g3
 · rw [offerD_other _ _ hok2 (by omega)]; exact g4
theorem cells_four {X : World} {r : Nat} {a b c d : Value} {t : TypeId} (h : X.heap[r]? = some (.cells #[a, b, c, d] t (0, 0))) :
 (X.cell? ⟨r, 0, none⟩ = some a ∧ X.cell? ⟨r, 1, none⟩ = some b ∧ X.cell? ⟨r, 2, none⟩ = some c ∧ X.cell? ⟨r, 3, none⟩ = some d) ∧ X.frozen? ⟨r, 0, none⟩ = false ∧ X.frozen? ⟨r, 1, none⟩ = false ∧ X.frozen? ⟨r, 2, none⟩ = false ∧ X.frozen? ⟨r, 3, none⟩ = false :=
 ⟨⟨(at_cell h 0 _ rfl).1, (at_cell h 1 _ rfl).1, (at_cell h 2 _ rfl).1, (at_cell h 3 _ rfl).1⟩, (at_cell h 0 _ rfl).2, (at_cell h 1 _ rfl).2, (at_cell h 2 _ rfl).2, (at_cell h 3 _ rfl).2⟩
theorem infoBf : (Tryz.prog.info? 39).map (fun i => (i.zero, i.size, i.bytes)) = some (some (.agg #[.int .i64 0, .int .i64 0, .bool false]), 3, 24) := by kernel_rfl
theorem buf_one (a n : Int) (b : Bool) : ∀ u ∈ [Value.int .i64 a, .int .i64 n, .bool b], u.oneCell' = true := by
 intro u hu
 simp at hu
 rcases hu with rfl | rfl | rfl <;> rfl
theorem flag_bits (t m : Bool) : bits BinOp.and IntKind.u16 ((flagOf t m : Nat) : Int) 1 = (if m then 1 else 0) ∧ bits BinOp.and IntKind.u16 ((flagOf t m : Nat) : Int) 2 = (if t then 2 else 0) := by
 obtain ⟨a0, a1, a2, a3⟩ := bits_one
 obtain ⟨c0, c1, c2, c3⟩ := bits_two
 cases t <;> cases m
 · exact ⟨a0, c0⟩
 · exact ⟨a1, c1⟩
 · exact ⟨a2, c2⟩
 · exact ⟨a3, c3⟩
theorem grown_other {w w' : World} {B m s : Nat} {v : Value} {e t : TypeId} {ys : List Value} {k : Nat} {cur : Array Value} {f : Nat × Nat} (h : w.grownBy w' v.ownBlock) (hv : w.ownsRow B e s v m ys) (hk : w.heap[k]? = some (.cells cur t f)) (ht : (t : Nat) ≠ e) : w'.heap[k]? = some (.cells cur t f) :=
 (h.block k (Array.getElem?_eq_some_iff.1 hk).1 (fun e' => by
  have e' := e'.symm
  rcases hv.2 with ⟨rfl, _⟩ | ⟨g, cap, c2, rfl, _, hh, _⟩
  · cases e'
  · have e' : g = k := by simpa [Value.ownBlock] using e'
    subst e'
    rw [hk] at hh
    injection hh with hh
    injection hh with _ hh _
    exact ht hh)).trans hk
theorem own_more {w : World} {B n k : Nat} {v : Value} {bs : List QB} {x : QB} (h : w.ownsRow B 39 3 v n (bufCells (bs.take k) ++ [.int .i64 x.1, .int .i64 x.2.1, .bool x.2.2])) (hn : n = (bs.take k).length + 1) (hx : bs[k]? = some x) : OwnBf B w v (bs.take (k + 1)) := by
 have h1 : bs.take (k + 1) = bs.take k ++ [x] := by rw [List.take_add_one, hx]; rfl
 unfold OwnBf
 rw [h1, bufCells_append, List.length_append, List.length_singleton, ← hn]
 exact h
def lenOf : Value → Nat
 | .slice _ n _ => n
 | _ => 0
set_option maxHeartbeats 4000000 in
set_option maxRecDepth 100000 in
theorem follow_any (N bq : Nat) (v : Value) (l : List UInt8) (ds : List Int) (bs : List QB) (hd : Int) (w : World) (hv : OwnB 0 w v l) (hok : RingOk l.length bq N) (hch : Chained l bq ds bs) (hds : ∀ d ∈ ds, 0 ≤ d ∧ d < (N : Int)) (hl : ds.length = bs.length) (h1 : 1 ≤ bs.length) (h2 : bs.length ≤ N) (h3 : ∀ x ∈ bs, InB l.length x) (hhd : hd = ds.getD 0 0) :
 Calls Tryz.prog 32 #[.agg #[v], .int .i64 (bq : Nat), .int .i64 (N : Nat), .int .i64 hd] w fun e w' => ∃ r, e = .returned (.tuple #[r, .int .i64 0]) ∧ OwnBf 0 w' r bs ∧ Below w.heap.size w w' := by
 have HHD := Lib.hid hhd
 clear hhd
 obtain ⟨ib, hib, hbz0, hbz1, hbz2⟩ := info_parts infoBf
 obtain ⟨ma, mc, rfl, hv1, hv2⟩ := hv.shape
 obtain ⟨L, hL⟩ : ∃ L, L = l.length := ⟨_, rfl⟩
 rw [← hL] at hv hok h3 hv1 ⊢
 have hN16 : N ≤ 16 := hok.right.le.2
 have hb : Below w.heap.size w (w.alloc (.cells #[.slice ma L mc] 26)) := (Below.refl _ _).alloc (Nat.le_refl _) _
 have HB0 := Lib.hid hb
 have HV := Lib.hid (hv.below hb)
 have HBX := Lib.hid (heap_alloc_new w (.cells #[.slice ma L mc] 26))
 have HOK := Lib.hid hok
 have HCH := Lib.hid hch
 have HDS := Lib.hid hds
 have HL := Lib.hid hl
 have HLL := Lib.hid hL.symm
 have HF := Lib.hid (show 1 ≤ bs.length ∧ bs.length ≤ N from ⟨h1, h2⟩)
 have HIN := Lib.hid h3
 have HBS := Lib.hid (show (w.alloc (.cells #[.slice ma L mc] 26)).heap.size = w.heap.size + 1 by simp)
 clear hv hok hch hds hl h1 h2 h3 hv1 hv2 hL hb
 go_enter Tryz.func32, Tryz.ntmps32
 go_wp2
 go_step3
 go_wp2
 go_step3
 go_wp2
 go_loopw [10, 11] (fun v i wr => ∃ (k : Nat) (va : Option Addr) (vc : Nat), k < bs.length ∧ v = .slice va k vc ∧ i = .int .i64 (ds.getD k 0) ∧ OwnBf (w.heap.size + 1) wr (.slice va k vc) (bs.take k) ∧ Below (w.alloc (.cells #[.slice ma L mc] 26)).heap.size (w.alloc (.cells #[.slice ma L mc] 26)) wr) (fun v _ _ => N - lenOf v)
 case atStart => exact ⟨0, none, 0, HF.out.1, rfl, by rw [HHD.out], World.ownsRow_nil _ _ _ _, Below.refl _ _⟩
 case round =>
  obtain ⟨k, va, vc, hk, rfl, rfl, hO, hbw⟩ := hrel
  have hkd : k < ds.length := by rw [HL.out]; exact hk
  have hg := getD_in HDS.out hkd
  obtain ⟨dk, hdk⟩ := Int.eq_ofNat_of_zero_le hg.1
  have HDK := Lib.hid hdk
  rw [hdk] at hg ⊢
  have hdN : dk < N := by omega
  have hx : bs[k]? = some bs[k] := List.getElem?_eq_getElem hk
  obtain ⟨px0, py0, pt, hb3⟩ : ∃ a c t, bs[k] = (a, c, t) := ⟨_, _, _, rfl⟩
  rw [hb3] at hx
  have hin := HIN.out _ (List.mem_of_getElem? hx)
  obtain ⟨i1, i2, i3⟩ := hin
  simp only at i1 i2 i3
  obtain ⟨px, rfl⟩ := Int.eq_ofNat_of_zero_le i1
  obtain ⟨py, rfl⟩ := Int.eq_ofNat_of_zero_le (show 0 ≤ py0 by omega)
  obtain ⟨d0, d1, d2, d3⟩ := HCH.out k hk
  rw [hdk] at d0 d1 d2 d3
  rw [show bs.getD k (0, 0, false) = ((px : Int), (py : Int), pt) by rw [List.getD_eq_getElem?_getD, hx]; rfl] at d0 d1 d2
  simp only [Int.toNat_natCast] at d0 d1 d2 d3
  obtain ⟨fb1, fb2⟩ := flag_bits pt (moreAt bs k)
  obtain ⟨fl, hfl⟩ : ∃ x, flagOf pt (moreAt bs k) = x := ⟨_, rfl⟩
  rw [hfl] at d2 fb1 fb2
  have hok2 : RingOk l.length bq N := by rw [HLL.out]; exact HOK.out
  have HX0 := Lib.hid ((descX_ok hok2 hdN 0 8).trans d0)
  have HX1 := Lib.hid ((descX_ok hok2 hdN 8 4).trans d1)
  have HX2 := Lib.hid ((descX_ok hok2 hdN 12 2).trans d2)
  have HX3 := Lib.hid ((descX_ok hok2 hdN 14 2).trans d3)
  have HXF := Lib.hid (descF_ok hok2 hdN)
  have hlie := hok2.lie
  have hlm := Lib.hid (show l.length ≤ maxLen by unfold maxLen; omega)
  have hL8 : L ≤ 8192 := by rw [← HLL.out]; exact hlie.2.2.2.2
  have hkN : k < N := by have := HF.out.2; omega
  have HO := Lib.hid hO
  have HBw := Lib.hid hbw
  have HK := Lib.hid hk
  have HX := Lib.hid hx
  have HIP := Lib.hid (show 1 ≤ py ∧ px + py ≤ L by omega)
  have HP9 := Lib.hid (show px < 9223372036854775808 ∧ py < 4294967296 by omega)
  have HFB := Lib.hid (show (pt = false ∧ (if pt then (2 : Int) else 0) = 0) ∨ (pt = true ∧ (if pt then (2 : Int) else 0) = 2) by cases pt <;> simp)
  have HFB2 := Lib.hid fb2
  obtain ⟨l0, y0⟩ := one_cell (row_keep HBX.out hbw)
  have hpyw : IntKind.u64.wrap ((py : Nat) : Int) = (py : Nat) := IntWalk.u64_in _ (by omega)
  clear hO hbw hg hx hb3 i1 i2 i3 d0 d1 d2 d3 hkd hdk hok2 hlie fb2 hfl
  go_wp2_with fail
  refine (desc_any _ l bq N dk 0 px py fl (nextOf ds bs k) HXF.out HX0.out HX1.out HX2.out HX3.out hlm.out _ (HV.out.below HBw.out).arg).mono ?_
  rintro e w1 ⟨rfl, hb⟩
  obtain ⟨nx, hnx⟩ : ∃ x, nextOf ds bs k = x := ⟨_, rfl⟩
  rw [hnx]
  have HNX := Lib.hid hnx
  have hnxw : IntKind.i64.wrap ((nx : Nat) : Int) = (nx : Nat) := IntWalk.i64_in _ (by have := nextOf_lt HDS.out HL.out hN16 k; omega)
  have HB1 := Lib.hid (HBw.out.trans (hb.mono HBw.out.size))
  have HO1 := Lib.hid (HO.out.below hb)
  obtain ⟨DB, hDB⟩ : ∃ o : Obj, o = (.cells #[.int .u64 (px : Nat), .int .u32 (py : Nat), .int .u16 (fl : Nat), .int .u16 (nx : Nat)] 112) := ⟨_, rfl⟩
  have hal : Below w1.heap.size w1 (w1.alloc DB) := (Below.refl _ _).alloc (Nat.le_refl _) _
  have HB2 := Lib.hid (HB1.out.trans (hal.mono HB1.out.size))
  have HO2 := Lib.hid (HO1.out.below hal)
  have HD2 := Lib.hid (show (w1.alloc DB).heap[w1.heap.size]? = some (.cells #[.int .u64 (px : Nat), .int .u32 (py : Nat), .int .u16 (fl : Nat), .int .u16 (nx : Nat)] 112 (0, 0)) from by rw [hDB]; exact heap_alloc_new w1 _)
  rw [hDB] at HB2 HO2 HD2
  clear hb hnx hal hDB DB HO HBw HB1 HO1 l0 y0 hlm HXF HX0 HX1 HX2 HX3
  obtain ⟨l0, y0⟩ := one_cell (row_keep HBX.out HB2.out)
  obtain ⟨⟨e0, e1, e2, e3⟩, _⟩ := cells_four HD2.out
  go_wp2_with fail
  refine (lies_in ma L mc px py hL8 HIP.out.1 HIP.out.2 _).mono ?_
  rintro e w3 ⟨rfl, hb⟩
  have HB3 := Lib.hid (HB2.out.trans (hb.mono HB2.out.size))
  have HO3 := Lib.hid (HO2.out.below hb)
  have HD3 := Lib.hid (row_keep HD2.out hb)
  clear hb HB2 HO2 HD2 l0 y0 e0 e1 e2 e3
  obtain ⟨⟨e0, e1, e2, e3⟩, _⟩ := cells_four HD3.out
  have hmore : moreAt bs k = decide (k + 1 < bs.length) := rfl
  by_cases hm : k + 1 < bs.length
  · rw [hmore, decide_eq_true hm] at fb1
    simp only [if_true] at fb1
    have HM := Lib.hid hm
    clear hm hmore
    go_wp2_with fail
    refine (partOf_in px py fl nx pt _ HP9.out.1 HP9.out.2 HFB2.out HFB.out _).mono ?_
    rintro e w4 ⟨rfl, hb⟩
    have HB4 := Lib.hid (HB3.out.trans (hb.mono HB3.out.size))
    have HD4 := Lib.hid (row_keep HD3.out hb)
    have h4o := HO3.out.below hb
    have hbb : Below w4.heap.size w4 (w4.alloc (.cells #[.int .i64 (px : Nat), .int .i64 (py : Nat), .bool pt] 39)) := (Below.refl _ _).alloc (Nat.le_refl _) _
    obtain ⟨⟨a0, a1, a2⟩, _⟩ := cells_three (heap_alloc_new w4 (.cells #[.int .i64 (px : Nat), .int .i64 (py : Nat), .bool pt] 39))
    have h4s : w.heap.size + 1 ≤ w4.heap.size := by have := HB4.out.size; rw [HBS.out] at this; exact this
    have h4k : (bs.take k).length = k := by rw [List.length_take]; have := HK.out; omega
    have HO6 := Lib.hid (show OwnBf (w.heap.size + 1) (w4.alloc (.cells #[.int .i64 (px : Nat), .int .i64 (py : Nat), .bool pt] 39)) (.slice va k vc) (bs.take k) ∧ (w4.alloc (.cells #[.int .i64 (px : Nat), .int .i64 (py : Nat), .bool pt] 39)).heap[w1.heap.size]? = some (.cells #[.int .u64 (px : Nat), .int .u32 (py : Nat), .int .u16 (fl : Nat), .int .u16 (nx : Nat)] 112 (0, 0)) ∧ (w4.alloc (.cells #[.int .i64 (px : Nat), .int .i64 (py : Nat), .bool pt] 39)).cell? ⟨w4.heap.size, 0, none⟩ = some (.int .i64 (px : Nat)) ∧ (w4.alloc (.cells #[.int .i64 (px : Nat), .int .i64 (py : Nat), .bool pt] 39)).cell? ⟨w4.heap.size, 1, none⟩ = some (.int .i64 (py : Nat)) ∧ (w4.alloc (.cells #[.int .i64 (px : Nat), .int .i64 (py : Nat), .bool pt] 39)).cell? ⟨w4.heap.size, 2, none⟩ = some (.bool pt) ∧ (bs.take k).length + 1 ≤ 1000 ∧ w.heap.size + 1 ≤ (w4.alloc (.cells #[.int .i64 (px : Nat), .int .i64 (py : Nat), .bool pt] 39)).heap.size from ⟨h4o.below hbb, row_keep HD4.out hbb, a0, a1, a2, by omega, Nat.le_trans h4s hbb.size⟩)
    have HB6 := Lib.hid (HB4.out.trans (hbb.mono HB4.out.size))
    clear hb HB3 HO3 HD3 h4o hbb a0 a1 a2 h4s h4k e0 e1 e2 e3
    obtain ⟨⟨e0, e1, e2, e3⟩, _⟩ := cells_four HD4.out
    go_wp2_with (at_builtin; refine wpList_append_own _ rfl _ _ 37 rfl (w.heap.size + 1) 39 ib (.agg #[.int .i64 0, .int .i64 0, .bool false]) 3 24 Tryz.underlying37 hib hbz0 hbz1 hbz2 rfl (by decide) _ _ _ rfl HO6.out.1 ⟨w4.heap.size, 0, none⟩ 1 1 [.int .i64 (px : Nat), .int .i64 (py : Nat), .bool pt] rfl rfl (three_news HO6.out.2.2.1 HO6.out.2.2.2.1 HO6.out.2.2.2.2.1) (buf_one _ _ _) (by have := HO6.out.2.2.2.2.2.1; unfold maxLen; omega) (by have := HO6.out.2.2.2.2.2.1; omega) HO6.out.2.2.2.2.2.2 ?_; intro v' w6 hown6 hgrow6 _; obtain ⟨k6, hk6⟩ : ∃ n, n = (bs.take k).length + 1 := ⟨_, rfl⟩; rw [← hk6] at hown6; have HK6 := Lib.hid hk6; clear hk6; obtain ⟨va6, vc6, rfl, q1, q2⟩ := owns_slice hown6; clear q1 q2; obtain ⟨⟨f0, f1, f2, f3⟩, _⟩ := cells_four (grown_other hgrow6 HO6.out.1 HO6.out.2.1 (by decide)))
    go_roundw
    case rel =>
     have hk6 : k6 = k + 1 := by rw [HK6.out, List.length_take]; omega
     have ho := own_more (x := ((px : Int), (py : Int), pt)) hown6 HK6.out HX.out
     rw [hk6] at ho ⊢
     refine ⟨k + 1, va6, vc6, HM.out, rfl, ?_, ho, ?_⟩
     · have h1 := getD_in HDS.out (show k + 1 < ds.length by rw [HL.out]; exact HM.out)
       have h2 := HNX.out
       unfold nextOf at h2
       rw [if_pos HM.out] at h2
       rw [← h2, Int.toNat_of_nonneg h1.1]
     · exact HB6.out.trans ((Below.refl _ _).grown hgrow6 (by rw [HBS.out]; exact HO6.out.2.2.2.2.2.2) (fun j hj => by rw [HBS.out]; exact (HO6.out.1.lt j hj).1))
    case measure =>
     have hk6 : k6 = k + 1 := by rw [HK6.out, List.length_take]; omega
     simp [lenOf]
     omega
  · rw [hmore, decide_eq_false hm] at fb1
    simp only [Bool.false_eq_true, if_false] at fb1
    have HM := Lib.hid hm
    clear hm hmore
    go_wp2_with fail
    refine (partOf_in px py fl nx pt _ HP9.out.1 HP9.out.2 HFB2.out HFB.out _).mono ?_
    rintro e w4 ⟨rfl, hb⟩
    have HB4 := Lib.hid (HB3.out.trans (hb.mono HB3.out.size))
    have HD4 := Lib.hid (row_keep HD3.out hb)
    have h4o := HO3.out.below hb
    have hbb : Below w4.heap.size w4 (w4.alloc (.cells #[.int .i64 (px : Nat), .int .i64 (py : Nat), .bool pt] 39)) := (Below.refl _ _).alloc (Nat.le_refl _) _
    obtain ⟨⟨a0, a1, a2⟩, _⟩ := cells_three (heap_alloc_new w4 (.cells #[.int .i64 (px : Nat), .int .i64 (py : Nat), .bool pt] 39))
    have h4s : w.heap.size + 1 ≤ w4.heap.size := by have := HB4.out.size; rw [HBS.out] at this; exact this
    have h4k : (bs.take k).length = k := by rw [List.length_take]; have := HK.out; omega
    have HO6 := Lib.hid (show OwnBf (w.heap.size + 1) (w4.alloc (.cells #[.int .i64 (px : Nat), .int .i64 (py : Nat), .bool pt] 39)) (.slice va k vc) (bs.take k) ∧ (w4.alloc (.cells #[.int .i64 (px : Nat), .int .i64 (py : Nat), .bool pt] 39)).heap[w1.heap.size]? = some (.cells #[.int .u64 (px : Nat), .int .u32 (py : Nat), .int .u16 (fl : Nat), .int .u16 (nx : Nat)] 112 (0, 0)) ∧ (w4.alloc (.cells #[.int .i64 (px : Nat), .int .i64 (py : Nat), .bool pt] 39)).cell? ⟨w4.heap.size, 0, none⟩ = some (.int .i64 (px : Nat)) ∧ (w4.alloc (.cells #[.int .i64 (px : Nat), .int .i64 (py : Nat), .bool pt] 39)).cell? ⟨w4.heap.size, 1, none⟩ = some (.int .i64 (py : Nat)) ∧ (w4.alloc (.cells #[.int .i64 (px : Nat), .int .i64 (py : Nat), .bool pt] 39)).cell? ⟨w4.heap.size, 2, none⟩ = some (.bool pt) ∧ (bs.take k).length + 1 ≤ 1000 ∧ w.heap.size + 1 ≤ (w4.alloc (.cells #[.int .i64 (px : Nat), .int .i64 (py : Nat), .bool pt] 39)).heap.size from ⟨h4o.below hbb, row_keep HD4.out hbb, a0, a1, a2, by omega, Nat.le_trans h4s hbb.size⟩)
    have HB6 := Lib.hid (HB4.out.trans (hbb.mono HB4.out.size))
    clear hb HB3 HO3 HD3 h4o hbb a0 a1 a2 h4s h4k e0 e1 e2 e3
    obtain ⟨⟨e0, e1, e2, e3⟩, _⟩ := cells_four HD4.out
    go_wp2_with (at_builtin; refine wpList_append_own _ rfl _ _ 37 rfl (w.heap.size + 1) 39 ib (.agg #[.int .i64 0, .int .i64 0, .bool false]) 3 24 Tryz.underlying37 hib hbz0 hbz1 hbz2 rfl (by decide) _ _ _ rfl HO6.out.1 ⟨w4.heap.size, 0, none⟩ 1 1 [.int .i64 (px : Nat), .int .i64 (py : Nat), .bool pt] rfl rfl (three_news HO6.out.2.2.1 HO6.out.2.2.2.1 HO6.out.2.2.2.2.1) (buf_one _ _ _) (by have := HO6.out.2.2.2.2.2.1; unfold maxLen; omega) (by have := HO6.out.2.2.2.2.2.1; omega) HO6.out.2.2.2.2.2.2 ?_; intro v' w6 hown6 hgrow6 _; obtain ⟨k6, hk6⟩ : ∃ n, n = (bs.take k).length + 1 := ⟨_, rfl⟩; rw [← hk6] at hown6; have HK6 := Lib.hid hk6; clear hk6; obtain ⟨va6, vc6, rfl, q1, q2⟩ := owns_slice hown6; clear q1 q2; obtain ⟨⟨f0, f1, f2, f3⟩, _⟩ := cells_four (grown_other hgrow6 HO6.out.1 HO6.out.2.1 (by decide)))
    rw [Exit.noGoto_ret]
    refine bodyPost_ret (v := .tuple #[.slice va6 k6 vc6, .int .i64 0]) (by simp [results, Tryz.results32, go_sem]) rfl ⟨_, rfl, ?_, ?_⟩
    · have ho := own_more (x := ((px : Int), (py : Int), pt)) hown6 HK6.out HX.out
      rw [List.take_of_length_le (by have := HM.out; omega)] at ho
      exact ho.base (Nat.zero_le _)
    · exact HB0.out.trans ((HB6.out.trans ((Below.refl _ _).grown hgrow6 (by rw [HBS.out]; exact HO6.out.2.2.2.2.2.2) (fun j hj => by rw [HBS.out]; exact (HO6.out.1.lt j hj).1))).mono (by rw [HBS.out]; omega))
end Go.Proofs.YtnmekbbnglkmcaaGreat
namespace Go.Proofs.YtnmekbbnglkmcaaGreat
open Go.RowKit Go.Lib
set_option maxHeartbeats 4000000 in
set_option maxRecDepth 100000 in
theorem next_ok (N bq se us idx hd : Nat) (v : Value) (l : List UInt8) (ds : List Int) (bs : List QB) (w : World) (hv : OwnB 0 w v l) (hok : RingOk l.length bq N) (hch : Chained l bq ds bs) (hds : ∀ d ∈ ds, 0 ≤ d ∧ d < (N : Int)) (hl : ds.length = bs.length) (h1 : 1 ≤ bs.length) (h2 : bs.length ≤ N) (h3 : ∀ x ∈ bs, InB l.length x) (hhd : (hd : Int) = ds.getD 0 0)
 (hse : se < 65536) (hix : numAt l (bq + 16 * N + 2) 2 = idx) (hne : idx ≠ se) (hat : numAt l (bq + 16 * N + 4 + 2 * (se % N)) 2 = hd) :
 Calls Tryz.prog 11 #[.agg #[v], .agg #[.int .i64 (bq : Nat), .int .i64 (N : Nat), .int .u16 (se : Nat), .int .u16 (us : Nat)]] w fun e w' => ∃ r, e = .returned (.tuple #[.agg #[.int .i64 (bq : Nat), .int .i64 (N : Nat), .int .u16 (((se + 1) % 65536) : Nat), .int .u16 (us : Nat)], .int .i64 (hd : Nat), r, .int .i64 0]) ∧ OwnBf 0 w' r bs ∧ Below w.heap.size w w' := by
 obtain ⟨ma, mc, rfl, hv1, hv2⟩ := hv.shape
 obtain ⟨L, hL⟩ : ∃ L, L = l.length := ⟨_, rfl⟩
 rw [← hL] at hv hv1 ⊢
 obtain ⟨t0, t1, t2, t4⟩ := three_boxes w #[.slice ma L mc] #[.int .i64 (bq : Nat), .int .i64 (N : Nat), .int .u16 (se : Nat), .int .u16 (us : Nat)] #[.int .i64 0, .int .i64 0, .int .u16 0, .int .u16 0] 26 35 35
 have HM := Lib.hid t0
 have HS := Lib.hid t1
 have HR := Lib.hid t2
 have HB := Lib.hid t4
 have HV := Lib.hid (hv.below t4)
 have HOK := Lib.hid hok
 have HLM := Lib.hid (show l.length ≤ maxLen by have := hok.few; unfold maxLen; omega)
 have HAV := Lib.hid ((availX_ok hok).trans hix)
 have HAT := Lib.hid ((availAtX_ok hok se).trans hat)
 have HRF := Lib.hid (ringF_ok hok)
 have HSE := Lib.hid hse
 have HFO := Lib.hid (show ∀ W, OwnB 0 W (.slice ma L mc) l → Calls Tryz.prog 32 #[.agg #[.slice ma L mc], .int .i64 (bq : Nat), .int .i64 (N : Nat), .int .i64 (hd : Nat)] W fun e w' => ∃ r, e = .returned (.tuple #[r, .int .i64 0]) ∧ OwnBf 0 w' r bs ∧ Below W.heap.size W w' from fun W hW => follow_any N bq _ l ds bs _ W hW hok hch hds hl h1 h2 h3 hhd)
 obtain ⟨t, ht⟩ : ∃ t, (se + 1) % 65536 = t := ⟨_, rfl⟩
 rw [ht]
 have hw16 : IntKind.u16.wrap (((se : Nat) : Int) + 1) = (t : Nat) := by simp [IntKind.wrap, IntKind.bits, IntKind.signed]; omega
 have hn0 : (((idx : Nat) : Int) == ((se : Nat) : Int)) = false := by rw [beq_eq_false_iff_ne]; omega
 have hn1 : (idx == se) = false := by rw [beq_eq_false_iff_ne]; exact hne
 clear hv hok hch hds hl h1 h2 h3 hhd hse hix hne hat hv1 hv2 hL t0 t1 t2 t4 ht
 obtain ⟨m0, _⟩ := one_cell HM.out
 obtain ⟨⟨s0, s1, s2, s3⟩, y0, y1, y2, y3⟩ := cells_four HS.out
 go_enter Tryz.func11, Tryz.ntmps11
 go_wp2_with fail
 refine (avail_any _ l bq N 0 idx HRF.out HAV.out HLM.out _ HV.out.arg).mono ?_
 rintro e w1 ⟨rfl, hb⟩
 have HM1 := Lib.hid (row_keep HM.out hb)
 have HS1 := Lib.hid (row_keep HS.out hb)
 have HR1 := Lib.hid (row_keep HR.out hb)
 have HB1 := Lib.hid (HB.out.trans (hb.mono HB.out.size))
 have HV1 := Lib.hid (HV.out.below hb)
 clear hb m0 s0 s1 s2 s3 y0 y1 y2 y3 HM HS HR HB HV
 obtain ⟨m0, _⟩ := one_cell HM1.out
 obtain ⟨⟨s0, s1, s2, s3⟩, y0, y1, y2, y3⟩ := cells_four HS1.out
 go_wp2_with fail
 refine (availAt_any _ l bq N se HSE.out 0 hd HRF.out HAT.out HLM.out _ HV1.out.arg).mono ?_
 rintro e w2 ⟨rfl, hb⟩
 have hS2 := row_keep HS1.out hb
 have hlt := (Array.getElem?_eq_some_iff.1 hS2).1
 have HB2 := Lib.hid ((HB1.out.trans (hb.mono HB1.out.size)).setCell (p := ⟨w.heap.size + 1, 2, none⟩) (by show w.heap.size ≤ w.heap.size + 1; omega) (.int .u16 (t : Nat)))
 have HM2 := Lib.hid (one_other (row_keep HM1.out hb) ⟨w.heap.size + 1, 2, none⟩ (.int .u16 (t : Nat)) (show w.heap.size + 1 ≠ w.heap.size by omega))
 have HR2 := Lib.hid (one_other (row_keep HR1.out hb) ⟨w.heap.size + 1, 2, none⟩ (.int .u16 (t : Nat)) (show w.heap.size + 1 ≠ w.heap.size + 2 by omega))
 have HS2 := Lib.hid (row_put hS2 2 (.int .u16 (t : Nat)))
 have HV2 := Lib.hid ((HV1.out.below hb).stay hS2 (by decide) 2 (.int .u16 (t : Nat)))
 clear m0 s0 s1 s2 s3 y0 y1 y2 y3 HM1 HS1 HR1 HB1 HV1
 obtain ⟨m0, _⟩ := one_cell (row_keep (one_other HM2.out ⟨w.heap.size + 1, 2, none⟩ (.int .u16 (t : Nat)) (show w.heap.size + 1 ≠ w.heap.size by omega)) (Below.refl _ _).drew)
 clear m0
 obtain ⟨m0, _⟩ := one_cell HM2.out
 obtain ⟨⟨s0, s1, s2, s3⟩, y0, y1, y2, y3⟩ := cells_four hS2
 clear hb hS2
 go_wp2_with fail
 refine (HFO.out _ HV2.out).mono ?_
 rintro e w3 ⟨r, rfl, hr, hb⟩
 have HB3 := Lib.hid (HB2.out.trans (hb.mono HB2.out.size))
 have HS3 := Lib.hid (row_keep HS2.out hb)
 have hR3 := row_keep HR2.out hb
 have HRR := Lib.hid hr
 have HR3 := Lib.hid hR3
 obtain ⟨ra, rc, rfl, q1, q2⟩ := hr.shape
 clear m0 s0 s1 s2 s3 y0 y1 y2 y3 hlt hb hr q1 q2 HM2 HS2 HR2 HB2 HV2
 obtain ⟨⟨s0, s1, s2, s3⟩, _⟩ := cells_four HS3.out
 obtain ⟨⟨r0, r1, r2, r3⟩, y0, y1, y2, y3⟩ := cells_four hR3
 have hlr := (Array.getElem?_eq_some_iff.1 hR3).1
 clear hR3
 go_wp2
 refine bodyPost_ret (v := .tuple #[.agg #[.int .i64 (bq : Nat), .int .i64 (N : Nat), .int .u16 (t : Nat), .int .u16 (us : Nat)], .int .i64 (hd : Nat), .slice ra bs.length rc, .int .i64 0]) (by simp [results, Tryz.results11, go_sem, r0, r1, r2, r3]) rfl ⟨_, rfl, ?_, ?_⟩
 · exact (((HRR.out.stay HR3.out (by decide) 0 _).stay (row_put HR3.out 0 _) (by decide) 1 _).stay (row_put (row_put HR3.out 0 _) 1 _) (by decide) 2 _).stay (row_put (row_put (row_put HR3.out 0 _) 1 _) 2 _) (by decide) 3 _
 · exact (((HB3.out.setCell (p := ⟨w.heap.size + 1 + 1, 0, none⟩) (by show w.heap.size ≤ w.heap.size + 1 + 1; omega) _).setCell (p := ⟨w.heap.size + 1 + 1, 1, none⟩) (by show w.heap.size ≤ w.heap.size + 1 + 1; omega) _).setCell (p := ⟨w.heap.size + 1 + 1, 2, none⟩) (by show w.heap.size ≤ w.heap.size + 1 + 1; omega) _).setCell (p := ⟨w.heap.size + 1 + 1, 3, none⟩) (by show w.heap.size ≤ w.heap.size + 1 + 1; omega) _
end Go.Proofs.YtnmekbbnglkmcaaGreat
namespace Go.Proofs.YtnmekbbnglkmcaaGreat
open Go.RowKit Go.Lib
structure QueGiveA where
 (b0 b1 b2 b3 b4 : Bool)
 (s48 s49 s10 : Value)
set_option maxHeartbeats 4000000 in
set_option maxRecDepth 100000 in
theorem give_ok (N bq se us hd n : Nat) (v : Value) (l : List UInt8) (w : World) (hv : OwnB 0 w v l) (hok : RingOk l.length bq N) (hus : us < 65536) (hh : hd ≤ 2147483647) (hn : n ≤ 2147483647) :
 Calls Tryz.prog 18 #[.agg #[v], .agg #[.int .i64 (bq : Nat), .int .i64 (N : Nat), .int .u16 (se : Nat), .int .u16 (us : Nat)], .int .i64 (hd : Nat), .int .i64 (n : Nat)] w fun e w' => ∃ ra rc, e = .returned (.tuple #[.agg #[.slice ra l.length rc], .agg #[.int .i64 (bq : Nat), .int .i64 (N : Nat), .int .u16 (se : Nat), .int .u16 (((us + 1) % 65536) : Nat)], .int .i64 0]) ∧ OwnB 0 w' (.slice ra l.length rc) (returnD l bq N us hd n) ∧ Below w.heap.size w w' := by
 obtain ⟨ma, mc, rfl, hv1, hv2⟩ := hv.shape
 obtain ⟨L, hL⟩ : ∃ L, L = l.length := ⟨_, rfl⟩
 have hl2 := returnD_length us hd n hok
 obtain ⟨l2, hll2⟩ : ∃ x, returnD l bq N us hd n = x := ⟨_, rfl⟩
 rw [hll2] at hl2 ⊢
 rw [← hL] at hv hv1 hl2 ⊢
 obtain ⟨t0, t1, t2, t3, t4⟩ := four_boxes w #[.slice ma L mc] #[.int .i64 (bq : Nat), .int .i64 (N : Nat), .int .u16 (se : Nat), .int .u16 (us : Nat)] #[.slice none 0 0] #[.int .i64 0, .int .i64 0, .int .u16 0, .int .u16 0] 26 35 26 35
 have HM := Lib.hid t0
 have HS := Lib.hid t1
 have HA := Lib.hid t2
 have HR := Lib.hid t3
 have HB := Lib.hid t4
 have HV := Lib.hid (hv.below t4)
 have HLM := Lib.hid (show l.length ≤ 140737488355328 by have := hok.few; omega)
 have HRX := Lib.hid ((returnX_ok hok us hd n).trans hll2)
 have HRF := Lib.hid (ringF_ok hok)
 have HUS := Lib.hid hus
 have HHN := Lib.hid (show hd ≤ 2147483647 ∧ n ≤ 2147483647 from ⟨hh, hn⟩)
 have HLL := Lib.hid hL.symm
 obtain ⟨t, ht⟩ : ∃ t, (us + 1) % 65536 = t := ⟨_, rfl⟩
 rw [ht]
 have hw16 : IntKind.u16.wrap (((us : Nat) : Int) + 1) = (t : Nat) := by simp [IntKind.wrap, IntKind.bits, IntKind.signed]; omega
 have hwh : IntKind.u32.wrap ((hd : Nat) : Int) = (hd : Nat) := by simp [IntKind.wrap, IntKind.bits, IntKind.signed]; omega
 have hwn : IntKind.u32.wrap ((n : Nat) : Int) = (n : Nat) := by simp [IntKind.wrap, IntKind.bits, IntKind.signed]; omega
 clear hv hok hus hh hn hv1 hv2 hL hl2 hll2 t0 t1 t2 t3 t4 ht
 obtain ⟨m0, mz⟩ := one_cell HM.out
 obtain ⟨⟨s0, s1, s2, s3⟩, y0, y1, y2, y3⟩ := cells_four HS.out
 go_enter Tryz.func18, Tryz.ntmps18
 go_wp2_with fail
 refine (isCount_in _ (by omega) (by have := HHN.out; omega) _).mono ?_
 rintro e w1 ⟨rfl, rfl⟩
 go_wp2_with fail
 refine (isCount_in _ (by omega) (by have := HHN.out; omega) _).mono ?_
 rintro e w1 ⟨rfl, rfl⟩
 go_wp2_with fail
 refine (return_any _ l bq N us HUS.out hd n (by have := HHN.out; omega) (by have := HHN.out; omega) 0 l2 HRF.out HRX.out HLM.out _ HV.out.arg).mono ?_
 rintro e w1 ⟨ra, rc, rfl, hgv, hb⟩
 have hm := hgv.ownB HV.out hb
 rw [HLL.out] at hm ⊢
 have hM1 := row_keep HM.out hb
 have hS1 := row_keep HS.out hb
 have hlt := (Array.getElem?_eq_some_iff.1 hM1).1
 have hs1 := one_other hS1 ⟨w.heap.size, 0, none⟩ (.slice ra L rc) (show w.heap.size ≠ w.heap.size + 1 by omega)
 have hls := (Array.getElem?_eq_some_iff.1 hs1).1
 have HM3 := Lib.hid (one_other (row_put hM1 0 (.slice ra L rc)) ⟨w.heap.size + 1, 3, none⟩ (.int .u16 (t : Nat)) (show w.heap.size + 1 ≠ w.heap.size by omega))
 have HS3 := Lib.hid (row_put hs1 3 (.int .u16 (t : Nat)))
 have HA3 := Lib.hid (one_other (one_other (row_keep HA.out hb) ⟨w.heap.size, 0, none⟩ (.slice ra L rc) (show w.heap.size ≠ w.heap.size + 2 by omega)) ⟨w.heap.size + 1, 3, none⟩ (.int .u16 (t : Nat)) (show w.heap.size + 1 ≠ w.heap.size + 2 by omega))
 have HR3 := Lib.hid (one_other (one_other (row_keep HR.out hb) ⟨w.heap.size, 0, none⟩ (.slice ra L rc) (show w.heap.size ≠ w.heap.size + 3 by omega)) ⟨w.heap.size + 1, 3, none⟩ (.int .u16 (t : Nat)) (show w.heap.size + 1 ≠ w.heap.size + 3 by omega))
 have HB3 := Lib.hid (((HB.out.trans (hb.mono HB.out.size)).setCell (p := ⟨w.heap.size, 0, none⟩) (Nat.le_refl _) (.slice ra L rc)).setCell (p := ⟨w.heap.size + 1, 3, none⟩) (by show w.heap.size ≤ w.heap.size + 1; omega) (.int .u16 (t : Nat)))
 have HV3 := Lib.hid ((hm.stay hM1 (by decide) 0 (.slice ra L rc)).stay hs1 (by decide) 3 (.int .u16 (t : Nat)))
 clear m0 mz s0 s1 s2 s3 y0 y1 y2 y3 hgv hm hb HA HR HB HV HM HS
 obtain ⟨m0, mz⟩ := one_cell hM1
 obtain ⟨⟨s0, s1, s2, s3⟩, y0, y1, y2, y3⟩ := cells_four hS1
 obtain ⟨⟨p0, p1, p2, p3⟩, o0, o1, o2, o3⟩ := cells_four hs1
 clear hM1 hS1 hs1
 go_wp2_with fail
 obtain ⟨w3, hw3⟩ : ∃ x, x = (w1.setCell ⟨w.heap.size, 0, none⟩ (.slice ra L rc)).setCell ⟨w.heap.size + 1, 3, none⟩ (.int .u16 (t : Nat)) := ⟨_, rfl⟩
 rw [← hw3] at HM3 HS3 HA3 HR3 HB3 HV3 ⊢
 clear hw3 m0 mz s0 s1 s2 s3 y0 y1 y2 y3 p0 p1 p2 p3 o0 o1 o2 o3 hlt hls
 refine wp_region_rec (X := QueGiveA) (by kernel_rfl) (by kernel_rfl) (fun x => #[x.b0, x.b1, x.b2, x.b3, x.b4]) (fun x => { tmps := List.toArray ((.agg #[.slice ma L mc]) :: (.agg #[.int .i64 (bq : Nat), .int .i64 (N : Nat), .int .u16 (se : Nat), .int .u16 (us : Nat)]) :: (.int .i64 (hd : Nat)) :: (.int .i64 (n : Nat)) :: (.pointer (some ⟨w.heap.size, 0, none⟩)) :: (.pointer (some ⟨w.heap.size + 1, 0, none⟩)) :: undef :: undef :: (.pointer (some ⟨w.heap.size + 1 + 1, 0, none⟩)) :: (.pointer (some ⟨w.heap.size + 1 + 1 + 1, 0, none⟩)) :: x.s10 :: (.int .i64 0) :: (.int .i64 (hd : Nat)) :: (.bool true) :: (.bool false) :: (.bool false) :: (.int .i64 (n : Nat)) :: (.bool true) :: (.bool false) :: (.bool false) :: undef :: undef :: undef :: (.tuple #[.agg #[.slice ra L rc], .int .i64 0]) :: (.agg #[.slice ma L mc]) :: (.pointer (some ⟨w.heap.size + 1, 0, none⟩)) :: (.int .i64 (bq : Nat)) :: (.pointer (some ⟨w.heap.size + 1, 1, none⟩)) :: (.int .i64 (N : Nat)) :: (.pointer (some ⟨w.heap.size + 1, 3, none⟩)) :: (.int .u16 (us : Nat)) :: (.int .i64 (hd : Nat)) :: (.int .u32 (hd : Nat)) :: (.int .i64 (n : Nat)) :: (.int .u32 (n : Nat)) :: (.agg #[.int .u32 (hd : Nat), .int .u32 (n : Nat)]) :: (.tuple #[.agg #[.slice ra L rc], .int .i64 0]) :: (.agg #[.slice ra L rc]) :: (.int .i64 0) :: (.int .i64 0) :: (.bool false) :: undef :: undef :: undef :: (.pointer (some ⟨w.heap.size + 1, 3, none⟩)) :: (.int .u16 (us : Nat)) :: (.int .u16 (t : Nat)) :: (.pointer (some ⟨w.heap.size + 1, 3, none⟩)) :: x.s48 :: x.s49 :: []), defers := [] }) (fun x W => (x.b0 = true → x.s48 = .agg #[.slice ra L rc]) ∧ (x.b1 = true → x.s49 = .agg #[.int .i64 (bq : Nat), .int .i64 (N : Nat), .int .u16 (se : Nat), .int .u16 (t : Nat)]) ∧ (x.b4 = true → x.s10 = .int .i64 0) ∧ (x.b3 = true → x.b2 = true) ∧ (W.heap[w.heap.size]? = some (.cells #[.slice ra L rc] 26 (0, 0))) ∧ (W.heap[w.heap.size + 1]? = some (.cells #[.int .i64 (bq : Nat), .int .i64 (N : Nat), .int .u16 (se : Nat), .int .u16 (t : Nat)] 35 (0, 0))) ∧ (x.b2 = false → W.heap[w.heap.size + 1 + 1]? = some (.cells #[.slice none 0 0] 26 (0, 0))) ∧ (x.b2 = true → W.heap[w.heap.size + 1 + 1]? = some (.cells #[.slice ra L rc] 26 (0, 0))) ∧ (x.b3 = false → W.heap[w.heap.size + 1 + 1 + 1]? = some (.cells #[.int .i64 0, .int .i64 0, .int .u16 0, .int .u16 0] 35 (0, 0))) ∧ (x.b3 = true → W.heap[w.heap.size + 1 + 1 + 1]? = some (.cells #[.int .i64 (bq : Nat), .int .i64 (N : Nat), .int .u16 (se : Nat), .int .u16 (t : Nat)] 35 (0, 0))) ∧ (Below w.heap.size w W) ∧ (OwnB 0 W (.slice ra L rc) l2)) ⟨false, false, false, false, false, undef, undef, .int .i64 0⟩ rfl rfl ⟨(fun h => by cases h), (fun h => by cases h), (fun h => by cases h), (fun h => by cases h), HM3.out, HS3.out, (fun _ => HA3.out), (fun h => by cases h), (fun _ => HR3.out), (fun h => by cases h), HB3.out.drew, HV3.out.drew⟩ (fun _ => rfl) ?hstep ?hdone
 case hstep =>
  rintro ⟨b0, b1, b2, b3, b4, s48, s49, s10⟩ W hI i hi
  dsimp only at hI hi ⊢
  have HI := Lib.hid hI
  clear hI
  rw [Region.ready, List.mem_filter, List.mem_range] at hi
  obtain ⟨hlt, hp⟩ := hi
  have hi7 : i = 0 ∨ i = 1 ∨ i = 2 ∨ i = 3 ∨ i = 4 := by simp at hlt; omega
  clear hlt
  rcases hi7 with rfl | rfl | rfl | rfl | rfl
  all_goals simp [Region.binds] at hp
  · obtain rfl : b0 = false := by revert hp; cases b0 <;> simp
    clear hp
    refine inv_op (o := ⟨some 48, _, _, _, _, _⟩) rfl (fun K' hK' => ?_)
    have rM := HI.out.2.2.2.2.1
    obtain ⟨hc0, _⟩ := at_cell rM 0 _ rfl
    go_simp
    exact hK'.out _ _ ⟨.mk .., rfl, rfl, (Upd (fun _ => rfl)) HI.out⟩
  · obtain rfl : b1 = false := by revert hp; cases b1 <;> simp
    clear hp
    refine inv_op (o := ⟨some 49, _, _, _, _, _⟩) rfl (fun K' hK' => ?_)
    have rS := HI.out.2.2.2.2.2.1
    obtain ⟨hc0, _⟩ := at_cell rS 0 _ rfl
    obtain ⟨hc1, _⟩ := at_cell rS 1 _ rfl
    obtain ⟨hc2, _⟩ := at_cell rS 2 _ rfl
    obtain ⟨hc3, _⟩ := at_cell rS 3 _ rfl
    go_simp
    exact hK'.out _ _ ⟨.mk .., rfl, rfl, Nxt (Upd (fun _ => rfl)) HI.out⟩
  · obtain ⟨rfl, e0⟩ : b2 = false ∧ b0 = true := by revert hp; cases b2 <;> cases b0 <;> simp
    clear hp
    obtain rfl := (HI.out.1) e0
    refine inv_op (o := ⟨none, _, _, _, _, _⟩) rfl (fun K' hK' => ?_)
    have gi3 := HI.out.2.2.2.1
    have rA0 := HI.out.2.2.2.2.2.2.1
    have hbf3 : b3 = false := by cases b3 with | false => rfl | true => exact absurd ((gi3 rfl)) (by decide)
    subst hbf3
    obtain ⟨hc0, hz0⟩ := at_cell (rA0 rfl) 0 _ rfl
    have hlt := (Array.getElem?_eq_some_iff.1 (rA0 rfl)).1
    go_simp
    obtain ⟨h0, h1, h4, gi3, rM, rS, rA0, rA1, rQ0, rQ1, gB, gV⟩ := HI.out
    exact hK'.out _ _ ⟨.mk .., rfl, rfl, h0, h1, h4, (fun e => by cases e), (one_other rM ⟨w.heap.size + 1 + 1, 0, none⟩ (.slice ra L rc) (by show w.heap.size + 1 + 1 ≠ w.heap.size; omega)), (one_other rS ⟨w.heap.size + 1 + 1, 0, none⟩ (.slice ra L rc) (blocks_ne rS (rA0 rfl) (by decide))), (fun e => by cases e), (fun _ => (row_put (rA0 rfl) 0 (.slice ra L rc))), (fun e => (one_other (rQ0 e) ⟨w.heap.size + 1 + 1, 0, none⟩ (.slice ra L rc) (blocks_ne (rQ0 e) (rA0 rfl) (by decide)))), (fun e => by cases e), (gB.setCell (p := ⟨w.heap.size + 1 + 1, 0, none⟩) (by show w.heap.size ≤ w.heap.size + 1 + 1; omega) (.slice ra L rc)), (gV.stay (rA0 rfl) (by decide) 0 (.slice ra L rc))⟩
  · obtain ⟨rfl, e1, e2⟩ : b3 = false ∧ b1 = true ∧ b2 = true := by revert hp; cases b3 <;> cases b1 <;> cases b2 <;> simp
    clear hp
    obtain rfl := (HI.out.2.1) e1
    refine inv_op (o := ⟨none, _, _, _, _, _⟩) rfl (fun K' hK' => ?_)
    have rQ0 := HI.out.2.2.2.2.2.2.2.2.1
    obtain ⟨hc0, hz0⟩ := at_cell (rQ0 rfl) 0 _ rfl
    obtain ⟨hc1, hz1⟩ := at_cell (rQ0 rfl) 1 _ rfl
    obtain ⟨hc2, hz2⟩ := at_cell (rQ0 rfl) 2 _ rfl
    obtain ⟨hc3, hz3⟩ := at_cell (rQ0 rfl) 3 _ rfl
    have hlt := (Array.getElem?_eq_some_iff.1 (rQ0 rfl)).1
    go_simp
    obtain ⟨h0, h1, h4, gi3, rM, rS, rA0, rA1, rQ0, rQ1, gB, gV⟩ := HI.out
    exact hK'.out _ _ ⟨.mk .., rfl, rfl, h0, h1, h4, (fun _ => e2), (one_other (one_other (one_other (one_other rM ⟨w.heap.size + 1 + 1 + 1, 0, none⟩ (.int .i64 (bq : Nat)) (blocks_ne rM (rQ0 rfl) (by decide))) ⟨w.heap.size + 1 + 1 + 1, 1, none⟩ (.int .i64 (N : Nat)) (blocks_ne rM (rQ0 rfl) (by decide))) ⟨w.heap.size + 1 + 1 + 1, 2, none⟩ (.int .u16 (se : Nat)) (blocks_ne rM (rQ0 rfl) (by decide))) ⟨w.heap.size + 1 + 1 + 1, 3, none⟩ (.int .u16 (t : Nat)) (blocks_ne rM (rQ0 rfl) (by decide))), (one_other (one_other (one_other (one_other rS ⟨w.heap.size + 1 + 1 + 1, 0, none⟩ (.int .i64 (bq : Nat)) (by show w.heap.size + 1 + 1 + 1 ≠ w.heap.size + 1; omega)) ⟨w.heap.size + 1 + 1 + 1, 1, none⟩ (.int .i64 (N : Nat)) (by show w.heap.size + 1 + 1 + 1 ≠ w.heap.size + 1; omega)) ⟨w.heap.size + 1 + 1 + 1, 2, none⟩ (.int .u16 (se : Nat)) (by show w.heap.size + 1 + 1 + 1 ≠ w.heap.size + 1; omega)) ⟨w.heap.size + 1 + 1 + 1, 3, none⟩ (.int .u16 (t : Nat)) (by show w.heap.size + 1 + 1 + 1 ≠ w.heap.size + 1; omega)), (fun e => (one_other (one_other (one_other (one_other (rA0 e) ⟨w.heap.size + 1 + 1 + 1, 0, none⟩ (.int .i64 (bq : Nat)) (blocks_ne (rA0 e) (rQ0 rfl) (by decide))) ⟨w.heap.size + 1 + 1 + 1, 1, none⟩ (.int .i64 (N : Nat)) (blocks_ne (rA0 e) (rQ0 rfl) (by decide))) ⟨w.heap.size + 1 + 1 + 1, 2, none⟩ (.int .u16 (se : Nat)) (blocks_ne (rA0 e) (rQ0 rfl) (by decide))) ⟨w.heap.size + 1 + 1 + 1, 3, none⟩ (.int .u16 (t : Nat)) (blocks_ne (rA0 e) (rQ0 rfl) (by decide)))), (fun e => (one_other (one_other (one_other (one_other (rA1 e) ⟨w.heap.size + 1 + 1 + 1, 0, none⟩ (.int .i64 (bq : Nat)) (blocks_ne (rA1 e) (rQ0 rfl) (by decide))) ⟨w.heap.size + 1 + 1 + 1, 1, none⟩ (.int .i64 (N : Nat)) (blocks_ne (rA1 e) (rQ0 rfl) (by decide))) ⟨w.heap.size + 1 + 1 + 1, 2, none⟩ (.int .u16 (se : Nat)) (blocks_ne (rA1 e) (rQ0 rfl) (by decide))) ⟨w.heap.size + 1 + 1 + 1, 3, none⟩ (.int .u16 (t : Nat)) (blocks_ne (rA1 e) (rQ0 rfl) (by decide)))), (fun e => by cases e), (fun _ => (row_put (row_put (row_put (row_put (rQ0 rfl) 0 (.int .i64 (bq : Nat))) 1 (.int .i64 (N : Nat))) 2 (.int .u16 (se : Nat))) 3 (.int .u16 (t : Nat)))), ((((gB.setCell (p := ⟨w.heap.size + 1 + 1 + 1, 0, none⟩) (by show w.heap.size ≤ w.heap.size + 1 + 1 + 1; omega) (.int .i64 (bq : Nat))).setCell (p := ⟨w.heap.size + 1 + 1 + 1, 1, none⟩) (by show w.heap.size ≤ w.heap.size + 1 + 1 + 1; omega) (.int .i64 (N : Nat))).setCell (p := ⟨w.heap.size + 1 + 1 + 1, 2, none⟩) (by show w.heap.size ≤ w.heap.size + 1 + 1 + 1; omega) (.int .u16 (se : Nat))).setCell (p := ⟨w.heap.size + 1 + 1 + 1, 3, none⟩) (by show w.heap.size ≤ w.heap.size + 1 + 1 + 1; omega) (.int .u16 (t : Nat))), ((((gV.stay (rQ0 rfl) (by decide) 0 (.int .i64 (bq : Nat))).stay (row_put (rQ0 rfl) 0 (.int .i64 (bq : Nat))) (by decide) 1 (.int .i64 (N : Nat))).stay (row_put (row_put (rQ0 rfl) 0 (.int .i64 (bq : Nat))) 1 (.int .i64 (N : Nat))) (by decide) 2 (.int .u16 (se : Nat))).stay (row_put (row_put (row_put (rQ0 rfl) 0 (.int .i64 (bq : Nat))) 1 (.int .i64 (N : Nat))) 2 (.int .u16 (se : Nat))) (by decide) 3 (.int .u16 (t : Nat)))⟩
  · obtain ⟨rfl, e3⟩ : b4 = false ∧ b3 = true := by revert hp; cases b4 <;> cases b3 <;> simp
    clear hp
    refine inv_op (o := ⟨some 10, _, _, _, _, _⟩) rfl (fun K' hK' => ?_)
    go_simp
    exact hK'.out _ _ ⟨.mk .., rfl, rfl, Nxt (Nxt (Upd (fun _ => rfl))) HI.out⟩
 case hdone =>
  rintro ⟨b0, b1, b2, b3, b4, s48, s49, s10⟩ W hI hall
  dsimp only at hI hall ⊢
  have HI := Lib.hid hI
  clear hI
  obtain rfl : b0 = true := hall 0 (by decide)
  obtain rfl : b1 = true := hall 1 (by decide)
  obtain rfl : b2 = true := hall 2 (by decide)
  obtain rfl : b3 = true := hall 3 (by decide)
  obtain rfl : b4 = true := hall 4 (by decide)
  obtain rfl := (HI.out.2.2.1) rfl
  have rA1 := HI.out.2.2.2.2.2.2.2.1
  have rQ1 := HI.out.2.2.2.2.2.2.2.2.2.1
  have gB := HI.out.2.2.2.2.2.2.2.2.2.2.1
  have gV := HI.out.2.2.2.2.2.2.2.2.2.2.2
  clear HI hall
  obtain ⟨r6, _⟩ := one_cell (rA1 rfl)
  obtain ⟨⟨r0, r1, r2, r3⟩, _⟩ := cells_four (rQ1 rfl)
  have HB6 := Lib.hid gB
  have HV6 := Lib.hid gV
  clear rA1 rQ1 gB gV
  go_wp2
  refine bodyPost_ret (v := .tuple #[.agg #[.slice ra L rc], .agg #[.int .i64 (bq : Nat), .int .i64 (N : Nat), .int .u16 (se : Nat), .int .u16 (t : Nat)], .int .i64 0]) (by simp [results, Tryz.results18, go_sem, r0, r1, r2, r3, r6]) rfl ⟨_, _, rfl, HV6.out, HB6.out⟩
end Go.Proofs.YtnmekbbnglkmcaaGreat
