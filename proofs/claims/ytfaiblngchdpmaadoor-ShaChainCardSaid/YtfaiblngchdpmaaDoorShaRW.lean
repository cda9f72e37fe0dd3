/- What the document's own Words and K answer, for every block. -/
import Derived.Test.YtfaiblngchdpmaaDoorShaU
import Derived.Test.YtfaiblngchdpmaaDoorRefFromBe
import Derived.Test.YtfaiblngchdpmaaDoorInv
namespace Go.Proofs.YtfaiblngchdpmaaDoor
open Go.RowKit Go.Lib

set_option maxHeartbeats 2000000 in
set_option maxRecDepth 100000 in
theorem refWords_other (a : Option Addr) (n c : Nat) (hn : n ≠ 64) (w : World) :
    Calls Tryd.prog 9 #[.slice a n c] w fun z w' => z = .returned (.agg zero64) ∧ Below w.heap.size w w' := by
  have hne : ((n : Int) != 64) = true := by rw [bne_iff_ne]; omega
  clear hn
  go_enter Tryd.func9, Tryd.ntmps9
  go_upto_region 2 with fail
  rw [← zero64_lit]
  go_wp2_with (first | (refine wpList_load_row rfl 26 _ rfl (w.heap.size + 1) rfl 26 zero64 (0, 0) _ (heap_alloc2_new w _ _) und64x32 rfl info64x32 ?_) | (refine wpList_store_row rfl 26 _ _ rfl w.heap.size zero64 rfl rfl 26 zero64 (heap_alloc2_old w _ _) info64x32 rfl (by decide +kernel) ?_))
  refine bodyPost_ret (results_cell_row rfl _ _ w.heap.size 26 _ (0, 0) _ rfl (setRow_heap _ _ _ _ _ _ (heap_alloc2_old w _ _)) und64x32 rfl info64x32) rfl ⟨rfl, ?_⟩
  exact below_setRow (((Below.refl _ _).alloc (Nat.le_refl _) _).alloc (by simp) _) (Nat.le_refl _) _


theorem slice_lh (b off n cap i : Nat) (hc : n ≤ cap) (hi : 4 * i + 4 ≤ n) (W : World) :
    (Instr.slice 24 (.slice (some ⟨b, off, none⟩) n cap) (some (.int .i64 (4 * (i : Int)))) (some (.int .i64 (4 * (i : Int) + 4))) none).run Tryd.prog W = .ok (.slice (some ⟨b, off + 4 * i, none⟩) 4 (cap - 4 * i)) W := by
  rw [run_slice_lh (P := Tryd.prog) W 24 (some ⟨b, off, none⟩) n cap elemBytes .i64 .i64 (4 * (i : Int)) (4 * (i : Int) + 4) (by omega) (by omega) (by omega), sizeByte]
  have e1 : (4 * (i : Int)).toNat = 4 * i := by omega
  have e2 : (4 * (i : Int) + 4).toNat = 4 * i + 4 := by omega
  simp only [Result.andThen, sliced, e1, e2, Nat.mul_one]
  rw [if_neg (by omega), show 4 * i + 4 - 4 * i = 4 by omega]
  simp only [Option.map_some, Addr.add_lit]
set_option maxHeartbeats 2000000 in
set_option maxRecDepth 100000 in
theorem refK_any (w : World) : Calls Tryd.prog 24 #[] w fun z w' => z = .returned (.agg (u32s kTab).toArray) ∧ Below w.heap.size w w' := by
  go_enter Tryd.func24, Tryd.ntmps24
  go_upto_region 1 with fail
  rw [← zero64_lit]
  obtain ⟨K, hK⟩ : ∃ K, K = (u32s kTab).toArray := ⟨_, rfl⟩
  have HK := Lib.hid (show (some 64 : Option Nat) = some K.size ∧ zero64.size = K.size ∧ K.all (·.oneCell') = true from ⟨by rw [hK]; rfl, by rw [hK]; rfl, by rw [hK]; exact u32s_one _⟩)
  have HKd := Lib.hid hK
  clear hK
  go_wp2_with (first | (refine wpList_build rfl 26 _ rfl (by kernel_rfl) ?_) | (refine wpList_store_row rfl 26 _ _ rfl w.heap.size K rfl ?hy 26 zero64 (heap_alloc_new w _) (info64x32.trans HK.out.1) HK.out.2.1 HK.out.2.2 ?_))
  case hy =>
    rw [HKd.out]
    kernel_rfl
  refine bodyPost_ret (results_cell_row rfl _ _ w.heap.size 26 _ (0, 0) _ rfl (setRow_heap _ _ _ _ _ _ (heap_alloc_new w _)) und64x32 rfl (info64x32.trans HK.out.1)) rfl ⟨by rw [HKd.out], ?_⟩
  exact below_setRow ((Below.refl _ _).alloc (Nat.le_refl _) _) (Nat.le_refl _) _
structure RefWordsX where
  b0 : Bool
  b1 : Bool
  b2 : Bool
  b3 : Bool
  b4 : Bool
  b5 : Bool
  b6 : Bool
  b7 : Bool
  b8 : Bool
  b9 : Bool
  b10 : Bool
  b11 : Bool
  b12 : Bool
  b13 : Bool
  b14 : Bool
  b15 : Bool
  b16 : Bool
  b17 : Bool
  b18 : Bool
  b19 : Bool
  b20 : Bool
  b21 : Bool
  b22 : Bool
  b23 : Bool
  b24 : Bool
  b25 : Bool
  b26 : Bool
  b27 : Bool
  b28 : Bool
  b29 : Bool
  s39 : Value
  s40 : Value
  s41 : Value
  s42 : Value
  s43 : Value
  s44 : Value
  s45 : Value
  s46 : Value
  s47 : Value
  s48 : Value
  s49 : Value
  s50 : Value
  s51 : Value
  s52 : Value
  s53 : Value
  s54 : Value
  s55 : Value
  s56 : Value
  s57 : Value
  s58 : Value
  s59 : Value
  s60 : Value
  s61 : Value
  s62 : Value
  s63 : Value
  s64 : Value
  s65 : Value
  s66 : Value
  s67 : Value
set_option maxHeartbeats 4000000 in
set_option maxRecDepth 100000 in
theorem refWords_this (v : Value) (l : List UInt8) (w : World) (hv : IsBytes w v l) (hl : l.length = 64) :
    Calls Tryd.prog 9 #[v] w fun z w' => z = .returned (.agg (u32s (wTo l 64)).toArray) ∧ Below w.heap.size w w' := by
  rcases hv with ⟨a0, c0, rfl, rfl⟩ | ⟨b, off, cap, rfl, hc1, hc2, hb, hcell⟩
  · simp at hl
  · rw [hl]
    rw [hl] at hc1
    unfold maxLen at hc2
    have HC := Lib.hid hcell
    have HL := Lib.hid hl
    clear hcell hl
    go_enter Tryd.func9, Tryd.ntmps9
    go_upto_region 2 with fail
    rw [← zero64_lit]
    go_wp2_with fail
    go_loopw [4] (fun c wr => ∃ i : Nat, i ≤ 16 ∧ c = .int .i64 i ∧ wr.heap[w.heap.size + 1]? = some (.cells (wRow l i).toArray 26 (0, 0)) ∧ wr.heap[w.heap.size]? = some (.cells zero64 26 (0, 0)) ∧ Below w.heap.size w wr) (fun c _ => 16 - (intOf c).toNat)
    case atStart => exact ⟨0, by omega, rfl, by rw [wRow_zero]; exact heap_alloc2_new w _ _, heap_alloc2_old w _ _, ((Below.refl _ _).alloc (Nat.le_refl _) _).alloc (by simp) _⟩
    case round =>
      obtain ⟨i, hi, rfl, hrow, hres, hbw⟩ := hrel
      have HW := Lib.hid hrow
      have HR := Lib.hid hres
      have HB := Lib.hid hbw
      clear hrow hres hbw
      by_cases hlt : i < 16
      · have hm1 : IntKind.i64.wrap (4 * (i : Int)) = 4 * (i : Int) := IntWalk.i64_in _ (by omega)
        have hm2 : IntKind.i64.wrap (4 * (i : Int) + 4) = 4 * (i : Int) + 4 := IntWalk.i64_in _ (by omega)
        have hsz := HB.out.size
        have hsz1 : w.heap.size + 1 < wr.heap.size := (Array.getElem?_eq_some_iff.1 HW.out).1
        have hib : IsBytes wr (.slice (some ⟨b, off + 4 * i, none⟩) 4 (cap - 4 * i)) ((l.drop (4 * i)).take 4) := by
          have h4 : ((l.drop (4 * i)).take 4).length = 4 := by have := HL.out; simp; omega
          refine .inr ⟨b, off + 4 * i, cap - 4 * i, by rw [h4], by omega, by unfold maxLen; omega, by omega, fun q hq => ?_⟩
          rw [h4] at hq
          rw [Nat.add_assoc, HB.out.cell (by simpa using hb), HC.out (4 * i + q) (by have := HL.out; omega)]
          simp [hq]
        have hfb := refFromBe_any _ _ wr hib
        rw [show (((l.drop (4 * i)).take 4).take 8) = (l.drop (4 * i)).take 4 from List.take_of_length_le (by simp; omega)] at hfb
        obtain ⟨y, hy⟩ : ∃ y, y = beN ((l.drop (4 * i)).take 4) := ⟨_, rfl⟩
        have hyl : y < 4294967296 := by
          have h1 := beN_lt ((l.drop (4 * i)).take 4)
          have h4 : ((l.drop (4 * i)).take 4).length = 4 := by have := HL.out; simp; omega
          rw [h4, ← hy] at h1
          exact h1
        rw [← hy] at hfb
        have hyw : IntKind.u32.wrap (y : Int) = (y : Int) := IntWalk.u32_in _ (by omega)
        have HY := Lib.hid (wTo_lo l i y hlt hy)
        have HFB := Lib.hid hfb
        have cy : wr.cell? ⟨w.heap.size + 1, i, none⟩ = some (.int .u32 0) := row_at HW.out (wRow_next l _ (by omega))
        have fy : wr.frozen? ⟨w.heap.size + 1, i, none⟩ = false := row_free HW.out
        have hsl : ∀ W, (Instr.slice 24 (.slice (some ⟨b, off, none⟩) 64 cap) (some (.int .i64 (4 * (i : Int)))) (some (.int .i64 (4 * (i : Int) + 4))) none).run Tryd.prog W = .ok (.slice (some ⟨b, off + 4 * i, none⟩) 4 (cap - 4 * i)) W := fun W => slice_lh b off 64 cap i hc1 (by omega) W
        clear hib hfb hy
        go_wp2_with fail
        refine HFB.out.mono ?_
        rintro e w1 ⟨rfl, rfl⟩
        go_wp2
        go_roundw
        case rel => exact ⟨i + 1, by omega, by go_num, by rw [← wRow_set l i y (by omega) HY.out]; exact row_set HW.out _, by rw [heap_setCell_other _ _ _ _ (by simp)]; exact HR.out, HB.out.setCell (by simp) _⟩
        case measure => simp [intOf]; omega
      · obtain rfl : i = 16 := by omega
        go_wp2_with fail
        go_loopw [5, 6, 7] (fun c x6 x7 wr => ∃ i : Nat, 16 ≤ i ∧ i ≤ 64 ∧ c = .int .i64 i ∧ wr.heap[w.heap.size + 1]? = some (.cells (wRow l i).toArray 26 (0, 0)) ∧ wr.heap[w.heap.size]? = some (.cells zero64 26 (0, 0)) ∧ Below w.heap.size w wr) (fun c _ _ _ => 64 - (intOf c).toNat)
        case atStart => exact ⟨16, by omega, by omega, rfl, HW.out, HR.out, HB.out⟩
        case round =>
          obtain ⟨i, hi16, hi, rfl, hrow, hres, hbw⟩ := hrel
          have HW := Lib.hid hrow
          have HR := Lib.hid hres
          have HB := Lib.hid hbw
          clear hrow hres hbw
          by_cases hlt2 : i < 64
          · obtain ⟨x0, hx0⟩ : ∃ x, x = (wTo l i).getD (i - 16) 0 := ⟨_, rfl⟩
            obtain ⟨x1, hx1⟩ : ∃ x, x = (wTo l i).getD (i - 15) 0 := ⟨_, rfl⟩
            obtain ⟨x9, hx9⟩ : ∃ x, x = (wTo l i).getD (i - 7) 0 := ⟨_, rfl⟩
            obtain ⟨x14, hx14⟩ : ∃ x, x = (wTo l i).getD (i - 2) 0 := ⟨_, rfl⟩
            have c1 : wr.cell? ⟨w.heap.size + 1, i - 15, none⟩ = some (.int .u32 (x1 : Nat)) := by rw [hx1]; exact row_at HW.out (wRow_at l _ _ (by omega))
            have c14 : wr.cell? ⟨w.heap.size + 1, i - 2, none⟩ = some (.int .u32 (x14 : Nat)) := by rw [hx14]; exact row_at HW.out (wRow_at l _ _ (by omega))
            have b1 : x1 < 4294967296 := by rw [hx1]; exact getD_32 (wTo_32 l _) _
            have b14 : x14 < 4294967296 := by rw [hx14]; exact getD_32 (wTo_32 l _) _
            have hs0 := sm0_32 x1 b1
            have hs1 := sm1_32 x14 b14
            have HYw := Lib.hid (show wTo l (i + 1) = wTo l i ++ [(sm1 x14 + x9 + sm0 x1 + x0) % 4294967296] by
              show wTo l i ++ [if i < 16 then wordAt l i else wNext (wTo l i) i] = _
              rw [if_neg (by omega)]
              unfold wNext
              rw [← hx0, ← hx1, ← hx9, ← hx14]
              rfl)
            clear hx1 hx14
            have HX0 := Lib.hid hx0
            have HX9 := Lib.hid hx9
            clear hx0 hx9
            go_wp2_with fail
            go_quiet (fail)
            go_wp2_with fail
            clear c1 c14
            obtain ⟨a52, ha52⟩ : ∃ a, a = (x0 + sm0 x1) % 4294967296 := ⟨_, rfl⟩
            obtain ⟨a57, ha57⟩ : ∃ a, a = (a52 + x9) % 4294967296 := ⟨_, rfl⟩
            obtain ⟨y, hy⟩ : ∃ a, a = (a57 + sm1 x14) % 4294967296 := ⟨_, rfl⟩
            have HA52 := Lib.hid (show IntKind.u32.wrap ((x0 : Int) + ((sm0 x1 : Nat) : Int)) = (a52 : Int) by rw [IntKind.wrap_u32']; omega)
            have HA57 := Lib.hid (show IntKind.u32.wrap ((a52 : Int) + (x9 : Int)) = (a57 : Int) by rw [IntKind.wrap_u32']; omega)
            have HY66 := Lib.hid (show IntKind.u32.wrap ((a57 : Int) + ((sm1 x14 : Nat) : Int)) = (y : Int) by rw [IntKind.wrap_u32']; omega)
            have HY := Lib.hid (show wTo l (i + 1) = wTo l i ++ [y] by
              rw [HYw.out]
              have e : (sm1 x14 + x9 + sm0 x1 + x0) % 4294967296 = y := by omega
              rw [e])
            have HS0 := Lib.hid hs0
            have HS1 := Lib.hid hs1
            have HW16 := Lib.hid (show IntKind.i64.wrap ((i : Int) - 16) = (i : Int) - 16 from IntWalk.i64_in _ (by omega))
            have HW7 := Lib.hid (show IntKind.i64.wrap ((i : Int) - 7) = (i : Int) - 7 from IntWalk.i64_in _ (by omega))
            have HCS := Lib.hid (show ∀ W : World, W.heap[w.heap.size + 1]? = some (.cells (wRow l i).toArray 26 (0, 0)) → W.cell? ⟨w.heap.size + 1, i - 16, none⟩ = some (.int .u32 (x0 : Nat)) ∧ W.cell? ⟨w.heap.size + 1, i - 7, none⟩ = some (.int .u32 (x9 : Nat)) from fun W hW => ⟨by rw [HX0.out]; exact row_at hW (wRow_at l _ _ (by omega)), by rw [HX9.out]; exact row_at hW (wRow_at l _ _ (by omega))⟩)
            clear ha52 ha57 hy hs0 hs1
            generalize decide ((i : Int) < 64) = d28
            refine wp_region_rec (X := RefWordsX) (by kernel_rfl) (by kernel_rfl) (fun x => #[x.b0, x.b1, x.b2, x.b3, x.b4, x.b5, x.b6, x.b7, x.b8, x.b9, x.b10, x.b11, x.b12, x.b13, x.b14, x.b15, x.b16, x.b17, x.b18, x.b19, x.b20, x.b21, x.b22, x.b23, x.b24, x.b25, x.b26, x.b27, x.b28, x.b29]) (fun x => { tmps := #[.slice (some ⟨b, off, none⟩) 64 cap, undef, .pointer (some ⟨w.heap.size, 0, none⟩), .pointer (some ⟨w.heap.size + 1, 0, none⟩), .int .i64 ((16 : Nat) : Int), .int .i64 i, .int .u32 (x1 : Nat), .int .u32 (x14 : Nat), .slice (some ⟨b, off, none⟩) 64 cap, .int .i64 64, .bool false, undef, .int .i64 ((16 : Nat) : Int), .bool false, u14, u15, u16, u17, u18, u19, u20, u21, u22, u23, u24, u25, u26, .int .i64 i, .bool d28, u29, u30, .int .i64 i, .int .i64 ((i : Int) - 15), .pointer (some ⟨w.heap.size + 1, i - 15, none⟩), .int .u32 (x1 : Nat), .int .i64 i, .int .i64 ((i : Int) - 2), .pointer (some ⟨w.heap.size + 1, i - 2, none⟩), .int .u32 (x14 : Nat), x.s39, x.s40, x.s41, x.s42, x.s43, x.s44, x.s45, x.s46, x.s47, x.s48, x.s49, x.s50, x.s51, x.s52, x.s53, x.s54, x.s55, x.s56, x.s57, x.s58, x.s59, x.s60, x.s61, x.s62, x.s63, x.s64, x.s65, x.s66, x.s67, undef], defers := [] }) (fun x W => (x.b0 = true → x.s39 = .int .i64 i) ∧ (x.b1 = true → x.s40 = .int .i64 i) ∧ (x.b2 = true → x.s41 = .int .i64 ((i : Int) - 16)) ∧ (x.b3 = true → x.s42 = .pointer (some ⟨w.heap.size + 1, i - 16, none⟩)) ∧ (x.b4 = true → x.s43 = .int .u32 ((x0 : Nat) : Int)) ∧ (x.b5 = true → x.s44 = .int .u32 ((x1 : Nat) : Int)) ∧ (x.b6 = true → x.s45 = .int .u32 ((rotR x1 7 : Nat) : Int)) ∧ (x.b7 = true → x.s46 = .int .u32 ((x1 : Nat) : Int)) ∧ (x.b8 = true → x.s47 = .int .u32 ((rotR x1 18 : Nat) : Int)) ∧ (x.b9 = true → x.s48 = .int .u32 (bits BinOp.xor IntKind.u32 ((rotR x1 7 : Nat) : Int) ((rotR x1 18 : Nat) : Int))) ∧ (x.b10 = true → x.s49 = .int .u32 ((x1 : Nat) : Int)) ∧ (x.b11 = true → x.s50 = .int .u32 ((x1 : Int) / 8)) ∧ (x.b12 = true → x.s51 = .int .u32 ((sm0 x1 : Nat) : Int)) ∧ (x.b13 = true → x.s52 = .int .u32 ((a52 : Nat) : Int)) ∧ (x.b14 = true → x.s53 = .int .i64 i) ∧ (x.b15 = true → x.s54 = .int .i64 ((i : Int) - 7)) ∧ (x.b16 = true → x.s55 = .pointer (some ⟨w.heap.size + 1, i - 7, none⟩)) ∧ (x.b17 = true → x.s56 = .int .u32 ((x9 : Nat) : Int)) ∧ (x.b18 = true → x.s57 = .int .u32 ((a57 : Nat) : Int)) ∧ (x.b19 = true → x.s58 = .int .u32 ((x14 : Nat) : Int)) ∧ (x.b20 = true → x.s59 = .int .u32 ((rotR x14 17 : Nat) : Int)) ∧ (x.b21 = true → x.s60 = .int .u32 ((x14 : Nat) : Int)) ∧ (x.b22 = true → x.s61 = .int .u32 ((rotR x14 19 : Nat) : Int)) ∧ (x.b23 = true → x.s62 = .int .u32 (bits BinOp.xor IntKind.u32 ((rotR x14 17 : Nat) : Int) ((rotR x14 19 : Nat) : Int))) ∧ (x.b24 = true → x.s63 = .int .u32 ((x14 : Nat) : Int)) ∧ (x.b25 = true → x.s64 = .int .u32 ((x14 : Int) / 1024)) ∧ (x.b26 = true → x.s65 = .int .u32 ((sm1 x14 : Nat) : Int)) ∧ (x.b27 = true → x.s66 = .int .u32 ((y : Nat) : Int)) ∧ (x.b28 = true → x.s67 = .pointer (some ⟨w.heap.size + 1, i, none⟩)) ∧ (x.b29 = true → x.b4 = true ∧ x.b17 = true) ∧ (W.heap[w.heap.size + 1]? = some (.cells (if x.b29 then (wRow l (i + 1)).toArray else (wRow l i).toArray) 26 (0, 0))) ∧ (W.heap[w.heap.size]? = some (.cells zero64 26 (0, 0))) ∧ (Below w.heap.size w W)) ⟨false, false, false, false, false, false, false, false, false, false, false, false, false, false, false, false, false, false, false, false, false, false, false, false, false, false, false, false, false, false, u39, u40, u41, u42, u43, u44, u45, u46, u47, u48, u49, u50, u51, u52, u53, u54, u55, u56, u57, u58, u59, u60, u61, u62, u63, u64, u65, u66, u67⟩ rfl rfl ⟨(fun h => by cases h), (fun h => by cases h), (fun h => by cases h), (fun h => by cases h), (fun h => by cases h), (fun h => by cases h), (fun h => by cases h), (fun h => by cases h), (fun h => by cases h), (fun h => by cases h), (fun h => by cases h), (fun h => by cases h), (fun h => by cases h), (fun h => by cases h), (fun h => by cases h), (fun h => by cases h), (fun h => by cases h), (fun h => by cases h), (fun h => by cases h), (fun h => by cases h), (fun h => by cases h), (fun h => by cases h), (fun h => by cases h), (fun h => by cases h), (fun h => by cases h), (fun h => by cases h), (fun h => by cases h), (fun h => by cases h), (fun h => by cases h), (fun h => by cases h), HW.out, HR.out, (below_drewN HB.out _).drew⟩ (fun _ => rfl) ?hstep ?hdone
            case hstep =>
              rintro ⟨b0, b1, b2, b3, b4, b5, b6, b7, b8, b9, b10, b11, b12, b13, b14, b15, b16, b17, b18, b19, b20, b21, b22, b23, b24, b25, b26, b27, b28, b29, s39, s40, s41, s42, s43, s44, s45, s46, s47, s48, s49, s50, s51, s52, s53, s54, s55, s56, s57, s58, s59, s60, s61, s62, s63, s64, s65, s66, s67⟩ W hI i hi
              dsimp only at hI hi ⊢
              have HI := Lib.hid hI
              clear hI
              rw [Region.ready, List.mem_filter, List.mem_range] at hi
              obtain ⟨hlt, hp⟩ := hi
              have hi7 : i = 0 ∨ i = 1 ∨ i = 2 ∨ i = 3 ∨ i = 4 ∨ i = 5 ∨ i = 6 ∨ i = 7 ∨ i = 8 ∨ i = 9 ∨ i = 10 ∨ i = 11 ∨ i = 12 ∨ i = 13 ∨ i = 14 ∨ i = 15 ∨ i = 16 ∨ i = 17 ∨ i = 18 ∨ i = 19 ∨ i = 20 ∨ i = 21 ∨ i = 22 ∨ i = 23 ∨ i = 24 ∨ i = 25 ∨ i = 26 ∨ i = 27 ∨ i = 28 ∨ i = 29 := by simp at hlt; omega
              clear hlt
              rcases hi7 with rfl | rfl | rfl | rfl | rfl | rfl | rfl | rfl | rfl | rfl | rfl | rfl | rfl | rfl | rfl | rfl | rfl | rfl | rfl | rfl | rfl | rfl | rfl | rfl | rfl | rfl | rfl | rfl | rfl | rfl
              all_goals simp [Region.binds] at hp
              · have hn0 : b0 = false := by revert hp; cases b0 <;> simp
                clear hp
                subst hn0
                refine inv_op (o := ⟨some 39, _, _, _, _, _⟩) rfl (fun K' hK' => ?_)
                go_simp
                obtain ⟨h0, h1, h2, h3, h4, h5, h6, h7, h8, h9, h10, h11, h12, h13, h14, h15, h16, h17, h18, h19, h20, h21, h22, h23, h24, h25, h26, h27, h28, gF, gS, gR, gB⟩ := HI.out
                exact hK'.out _ _ ⟨⟨true, b1, b2, b3, b4, b5, b6, b7, b8, b9, b10, b11, b12, b13, b14, b15, b16, b17, b18, b19, b20, b21, b22, b23, b24, b25, b26, b27, b28, b29, _, s40, s41, s42, s43, s44, s45, s46, s47, s48, s49, s50, s51, s52, s53, s54, s55, s56, s57, s58, s59, s60, s61, s62, s63, s64, s65, s66, s67⟩, rfl, rfl, (fun _ => rfl), h1, h2, h3, h4, h5, h6, h7, h8, h9, h10, h11, h12, h13, h14, h15, h16, h17, h18, h19, h20, h21, h22, h23, h24, h25, h26, h27, h28, gF, gS, gR, gB⟩
              · have hn1 : b1 = false := by revert hp; cases b1 <;> simp
                clear hp
                subst hn1
                refine inv_op (o := ⟨some 40, _, _, _, _, _⟩) rfl (fun K' hK' => ?_)
                go_simp
                obtain ⟨h0, h1, h2, h3, h4, h5, h6, h7, h8, h9, h10, h11, h12, h13, h14, h15, h16, h17, h18, h19, h20, h21, h22, h23, h24, h25, h26, h27, h28, gF, gS, gR, gB⟩ := HI.out
                exact hK'.out _ _ ⟨⟨b0, true, b2, b3, b4, b5, b6, b7, b8, b9, b10, b11, b12, b13, b14, b15, b16, b17, b18, b19, b20, b21, b22, b23, b24, b25, b26, b27, b28, b29, s39, _, s41, s42, s43, s44, s45, s46, s47, s48, s49, s50, s51, s52, s53, s54, s55, s56, s57, s58, s59, s60, s61, s62, s63, s64, s65, s66, s67⟩, rfl, rfl, h0, (fun _ => rfl), h2, h3, h4, h5, h6, h7, h8, h9, h10, h11, h12, h13, h14, h15, h16, h17, h18, h19, h20, h21, h22, h23, h24, h25, h26, h27, h28, gF, gS, gR, gB⟩
              · have hn2 : b2 = false := by revert hp; cases b2 <;> simp
                have e1 : b1 = true := by revert hp; cases b1 <;> simp
                clear hp
                obtain rfl := (HI.out.2.1) e1
                subst hn2
                refine inv_op (o := ⟨some 41, _, _, _, _, _⟩) rfl (fun K' hK' => ?_)
                have hw := HW16.out
                go_simp
                (try rw [hw])
                obtain ⟨h0, h1, h2, h3, h4, h5, h6, h7, h8, h9, h10, h11, h12, h13, h14, h15, h16, h17, h18, h19, h20, h21, h22, h23, h24, h25, h26, h27, h28, gF, gS, gR, gB⟩ := HI.out
                exact hK'.out _ _ ⟨⟨b0, b1, true, b3, b4, b5, b6, b7, b8, b9, b10, b11, b12, b13, b14, b15, b16, b17, b18, b19, b20, b21, b22, b23, b24, b25, b26, b27, b28, b29, s39, _, _, s42, s43, s44, s45, s46, s47, s48, s49, s50, s51, s52, s53, s54, s55, s56, s57, s58, s59, s60, s61, s62, s63, s64, s65, s66, s67⟩, rfl, rfl, h0, h1, (fun _ => rfl), h3, h4, h5, h6, h7, h8, h9, h10, h11, h12, h13, h14, h15, h16, h17, h18, h19, h20, h21, h22, h23, h24, h25, h26, h27, h28, gF, gS, gR, gB⟩
              · have hn3 : b3 = false := by revert hp; cases b3 <;> simp
                have e2 : b2 = true := by revert hp; cases b2 <;> simp
                clear hp
                obtain rfl := (HI.out.2.2.1) e2
                subst hn3
                refine inv_op (o := ⟨some 42, _, _, _, _, _⟩) rfl (fun K' hK' => ?_)
                have q1 : (16 : Int) ≤ (i : Int) := by omega
                have q2 : (i : Int) - 16 < 64 := by omega
                have q3 : ((i : Int) - 16).toNat = i - 16 := by omega
                go_simp
                obtain ⟨h0, h1, h2, h3, h4, h5, h6, h7, h8, h9, h10, h11, h12, h13, h14, h15, h16, h17, h18, h19, h20, h21, h22, h23, h24, h25, h26, h27, h28, gF, gS, gR, gB⟩ := HI.out
                exact hK'.out _ _ ⟨⟨b0, b1, b2, true, b4, b5, b6, b7, b8, b9, b10, b11, b12, b13, b14, b15, b16, b17, b18, b19, b20, b21, b22, b23, b24, b25, b26, b27, b28, b29, s39, s40, _, _, s43, s44, s45, s46, s47, s48, s49, s50, s51, s52, s53, s54, s55, s56, s57, s58, s59, s60, s61, s62, s63, s64, s65, s66, s67⟩, rfl, rfl, h0, h1, h2, (fun _ => rfl), h4, h5, h6, h7, h8, h9, h10, h11, h12, h13, h14, h15, h16, h17, h18, h19, h20, h21, h22, h23, h24, h25, h26, h27, h28, gF, gS, gR, gB⟩
              · have hn4 : b4 = false := by revert hp; cases b4 <;> simp
                have e3 : b3 = true := by revert hp; cases b3 <;> simp
                clear hp
                obtain rfl := (HI.out.2.2.2.1) e3
                subst hn4
                refine inv_op (o := ⟨some 43, _, _, _, _, _⟩) rfl (fun K' hK' => ?_)
                have gF := HI.out.2.2.2.2.2.2.2.2.2.2.2.2.2.2.2.2.2.2.2.2.2.2.2.2.2.2.2.2.2.1
                have gS := HI.out.2.2.2.2.2.2.2.2.2.2.2.2.2.2.2.2.2.2.2.2.2.2.2.2.2.2.2.2.2.2.1
                have b29f : b29 = false := by cases b29 with | false => rfl | true => exact absurd (gF rfl) (by simp)
                subst b29f
                have hc := HCS.out W gS
                have hc := hc.1
                go_simp
                obtain ⟨h0, h1, h2, h3, h4, h5, h6, h7, h8, h9, h10, h11, h12, h13, h14, h15, h16, h17, h18, h19, h20, h21, h22, h23, h24, h25, h26, h27, h28, gF, gS, gR, gB⟩ := HI.out
                exact hK'.out _ _ ⟨⟨b0, b1, b2, b3, true, b5, b6, b7, b8, b9, b10, b11, b12, b13, b14, b15, b16, b17, b18, b19, b20, b21, b22, b23, b24, b25, b26, b27, b28, false, s39, s40, s41, _, _, s44, s45, s46, s47, s48, s49, s50, s51, s52, s53, s54, s55, s56, s57, s58, s59, s60, s61, s62, s63, s64, s65, s66, s67⟩, rfl, rfl, h0, h1, h2, h3, (fun _ => rfl), h5, h6, h7, h8, h9, h10, h11, h12, h13, h14, h15, h16, h17, h18, h19, h20, h21, h22, h23, h24, h25, h26, h27, h28, (fun h => by cases h), gS, gR, gB⟩
              · have hn5 : b5 = false := by revert hp; cases b5 <;> simp
                clear hp
                subst hn5
                refine inv_op (o := ⟨some 44, _, _, _, _, _⟩) rfl (fun K' hK' => ?_)
                go_simp
                obtain ⟨h0, h1, h2, h3, h4, h5, h6, h7, h8, h9, h10, h11, h12, h13, h14, h15, h16, h17, h18, h19, h20, h21, h22, h23, h24, h25, h26, h27, h28, gF, gS, gR, gB⟩ := HI.out
                exact hK'.out _ _ ⟨⟨b0, b1, b2, b3, b4, true, b6, b7, b8, b9, b10, b11, b12, b13, b14, b15, b16, b17, b18, b19, b20, b21, b22, b23, b24, b25, b26, b27, b28, b29, s39, s40, s41, s42, s43, _, s45, s46, s47, s48, s49, s50, s51, s52, s53, s54, s55, s56, s57, s58, s59, s60, s61, s62, s63, s64, s65, s66, s67⟩, rfl, rfl, h0, h1, h2, h3, h4, (fun _ => rfl), h6, h7, h8, h9, h10, h11, h12, h13, h14, h15, h16, h17, h18, h19, h20, h21, h22, h23, h24, h25, h26, h27, h28, gF, gS, gR, gB⟩
              · have hn6 : b6 = false := by revert hp; cases b6 <;> simp
                have e5 : b5 = true := by revert hp; cases b5 <;> simp
                clear hp
                obtain rfl := (HI.out.2.2.2.2.2.1) e5
                subst hn6
                refine inv_op (o := ⟨some 45, _, _, _, _, _⟩) rfl (fun K' hK' => ?_)
                go_simp
                refine (refRot_any x1 7 (by assumption) (by decide) (by decide) W).mono ?_
                rintro e w1 ⟨rfl, rfl⟩
                obtain ⟨h0, h1, h2, h3, h4, h5, h6, h7, h8, h9, h10, h11, h12, h13, h14, h15, h16, h17, h18, h19, h20, h21, h22, h23, h24, h25, h26, h27, h28, gF, gS, gR, gB⟩ := HI.out
                exact hK'.out _ _ ⟨⟨b0, b1, b2, b3, b4, b5, true, b7, b8, b9, b10, b11, b12, b13, b14, b15, b16, b17, b18, b19, b20, b21, b22, b23, b24, b25, b26, b27, b28, b29, s39, s40, s41, s42, s43, _, _, s46, s47, s48, s49, s50, s51, s52, s53, s54, s55, s56, s57, s58, s59, s60, s61, s62, s63, s64, s65, s66, s67⟩, rfl, rfl, h0, h1, h2, h3, h4, h5, (fun _ => rfl), h7, h8, h9, h10, h11, h12, h13, h14, h15, h16, h17, h18, h19, h20, h21, h22, h23, h24, h25, h26, h27, h28, gF, gS, gR, gB⟩
              · have hn7 : b7 = false := by revert hp; cases b7 <;> simp
                clear hp
                subst hn7
                refine inv_op (o := ⟨some 46, _, _, _, _, _⟩) rfl (fun K' hK' => ?_)
                go_simp
                obtain ⟨h0, h1, h2, h3, h4, h5, h6, h7, h8, h9, h10, h11, h12, h13, h14, h15, h16, h17, h18, h19, h20, h21, h22, h23, h24, h25, h26, h27, h28, gF, gS, gR, gB⟩ := HI.out
                exact hK'.out _ _ ⟨⟨b0, b1, b2, b3, b4, b5, b6, true, b8, b9, b10, b11, b12, b13, b14, b15, b16, b17, b18, b19, b20, b21, b22, b23, b24, b25, b26, b27, b28, b29, s39, s40, s41, s42, s43, s44, s45, _, s47, s48, s49, s50, s51, s52, s53, s54, s55, s56, s57, s58, s59, s60, s61, s62, s63, s64, s65, s66, s67⟩, rfl, rfl, h0, h1, h2, h3, h4, h5, h6, (fun _ => rfl), h8, h9, h10, h11, h12, h13, h14, h15, h16, h17, h18, h19, h20, h21, h22, h23, h24, h25, h26, h27, h28, gF, gS, gR, gB⟩
              · have hn8 : b8 = false := by revert hp; cases b8 <;> simp
                have e7 : b7 = true := by revert hp; cases b7 <;> simp
                clear hp
                obtain rfl := (HI.out.2.2.2.2.2.2.2.1) e7
                subst hn8
                refine inv_op (o := ⟨some 47, _, _, _, _, _⟩) rfl (fun K' hK' => ?_)
                go_simp
                refine (refRot_any x1 18 (by assumption) (by decide) (by decide) W).mono ?_
                rintro e w1 ⟨rfl, rfl⟩
                obtain ⟨h0, h1, h2, h3, h4, h5, h6, h7, h8, h9, h10, h11, h12, h13, h14, h15, h16, h17, h18, h19, h20, h21, h22, h23, h24, h25, h26, h27, h28, gF, gS, gR, gB⟩ := HI.out
                exact hK'.out _ _ ⟨⟨b0, b1, b2, b3, b4, b5, b6, b7, true, b9, b10, b11, b12, b13, b14, b15, b16, b17, b18, b19, b20, b21, b22, b23, b24, b25, b26, b27, b28, b29, s39, s40, s41, s42, s43, s44, s45, _, _, s48, s49, s50, s51, s52, s53, s54, s55, s56, s57, s58, s59, s60, s61, s62, s63, s64, s65, s66, s67⟩, rfl, rfl, h0, h1, h2, h3, h4, h5, h6, h7, (fun _ => rfl), h9, h10, h11, h12, h13, h14, h15, h16, h17, h18, h19, h20, h21, h22, h23, h24, h25, h26, h27, h28, gF, gS, gR, gB⟩
              · have hn9 : b9 = false := by revert hp; cases b9 <;> simp
                have e6 : b6 = true := by revert hp; cases b6 <;> simp
                have e8 : b8 = true := by revert hp; cases b8 <;> simp
                clear hp
                obtain rfl := (HI.out.2.2.2.2.2.2.1) e6
                obtain rfl := (HI.out.2.2.2.2.2.2.2.2.1) e8
                subst hn9
                refine inv_op (o := ⟨some 48, _, _, _, _, _⟩) rfl (fun K' hK' => ?_)
                go_simp
                obtain ⟨h0, h1, h2, h3, h4, h5, h6, h7, h8, h9, h10, h11, h12, h13, h14, h15, h16, h17, h18, h19, h20, h21, h22, h23, h24, h25, h26, h27, h28, gF, gS, gR, gB⟩ := HI.out
                exact hK'.out _ _ ⟨⟨b0, b1, b2, b3, b4, b5, b6, b7, b8, true, b10, b11, b12, b13, b14, b15, b16, b17, b18, b19, b20, b21, b22, b23, b24, b25, b26, b27, b28, b29, s39, s40, s41, s42, s43, s44, _, s46, _, _, s49, s50, s51, s52, s53, s54, s55, s56, s57, s58, s59, s60, s61, s62, s63, s64, s65, s66, s67⟩, rfl, rfl, h0, h1, h2, h3, h4, h5, h6, h7, h8, (fun _ => rfl), h10, h11, h12, h13, h14, h15, h16, h17, h18, h19, h20, h21, h22, h23, h24, h25, h26, h27, h28, gF, gS, gR, gB⟩
              · have hn10 : b10 = false := by revert hp; cases b10 <;> simp
                clear hp
                subst hn10
                refine inv_op (o := ⟨some 49, _, _, _, _, _⟩) rfl (fun K' hK' => ?_)
                go_simp
                obtain ⟨h0, h1, h2, h3, h4, h5, h6, h7, h8, h9, h10, h11, h12, h13, h14, h15, h16, h17, h18, h19, h20, h21, h22, h23, h24, h25, h26, h27, h28, gF, gS, gR, gB⟩ := HI.out
                exact hK'.out _ _ ⟨⟨b0, b1, b2, b3, b4, b5, b6, b7, b8, b9, true, b11, b12, b13, b14, b15, b16, b17, b18, b19, b20, b21, b22, b23, b24, b25, b26, b27, b28, b29, s39, s40, s41, s42, s43, s44, s45, s46, s47, s48, _, s50, s51, s52, s53, s54, s55, s56, s57, s58, s59, s60, s61, s62, s63, s64, s65, s66, s67⟩, rfl, rfl, h0, h1, h2, h3, h4, h5, h6, h7, h8, h9, (fun _ => rfl), h11, h12, h13, h14, h15, h16, h17, h18, h19, h20, h21, h22, h23, h24, h25, h26, h27, h28, gF, gS, gR, gB⟩
              · have hn11 : b11 = false := by revert hp; cases b11 <;> simp
                have e10 : b10 = true := by revert hp; cases b10 <;> simp
                clear hp
                obtain rfl := (HI.out.2.2.2.2.2.2.2.2.2.2.1) e10
                subst hn11
                refine inv_op (o := ⟨some 50, _, _, _, _, _⟩) rfl (fun K' hK' => ?_)
                go_simp
                obtain ⟨h0, h1, h2, h3, h4, h5, h6, h7, h8, h9, h10, h11, h12, h13, h14, h15, h16, h17, h18, h19, h20, h21, h22, h23, h24, h25, h26, h27, h28, gF, gS, gR, gB⟩ := HI.out
                exact hK'.out _ _ ⟨⟨b0, b1, b2, b3, b4, b5, b6, b7, b8, b9, b10, true, b12, b13, b14, b15, b16, b17, b18, b19, b20, b21, b22, b23, b24, b25, b26, b27, b28, b29, s39, s40, s41, s42, s43, s44, s45, s46, s47, s48, _, _, s51, s52, s53, s54, s55, s56, s57, s58, s59, s60, s61, s62, s63, s64, s65, s66, s67⟩, rfl, rfl, h0, h1, h2, h3, h4, h5, h6, h7, h8, h9, h10, (fun _ => rfl), h12, h13, h14, h15, h16, h17, h18, h19, h20, h21, h22, h23, h24, h25, h26, h27, h28, gF, gS, gR, gB⟩
              · have hn12 : b12 = false := by revert hp; cases b12 <;> simp
                have e9 : b9 = true := by revert hp; cases b9 <;> simp
                have e11 : b11 = true := by revert hp; cases b11 <;> simp
                clear hp
                obtain rfl := (HI.out.2.2.2.2.2.2.2.2.2.1) e9
                obtain rfl := (HI.out.2.2.2.2.2.2.2.2.2.2.2.1) e11
                subst hn12
                refine inv_op (o := ⟨some 51, _, _, _, _, _⟩) rfl (fun K' hK' => ?_)
                go_simp
                (try rw [HS0.out])
                obtain ⟨h0, h1, h2, h3, h4, h5, h6, h7, h8, h9, h10, h11, h12, h13, h14, h15, h16, h17, h18, h19, h20, h21, h22, h23, h24, h25, h26, h27, h28, gF, gS, gR, gB⟩ := HI.out
                exact hK'.out _ _ ⟨⟨b0, b1, b2, b3, b4, b5, b6, b7, b8, b9, b10, b11, true, b13, b14, b15, b16, b17, b18, b19, b20, b21, b22, b23, b24, b25, b26, b27, b28, b29, s39, s40, s41, s42, s43, s44, s45, s46, s47, _, s49, _, _, s52, s53, s54, s55, s56, s57, s58, s59, s60, s61, s62, s63, s64, s65, s66, s67⟩, rfl, rfl, h0, h1, h2, h3, h4, h5, h6, h7, h8, h9, h10, h11, (fun _ => rfl), h13, h14, h15, h16, h17, h18, h19, h20, h21, h22, h23, h24, h25, h26, h27, h28, gF, gS, gR, gB⟩
              · have hn13 : b13 = false := by revert hp; cases b13 <;> simp
                have e4 : b4 = true := by revert hp; cases b4 <;> simp
                have e12 : b12 = true := by revert hp; cases b12 <;> simp
                clear hp
                obtain rfl := (HI.out.2.2.2.2.1) e4
                obtain rfl := (HI.out.2.2.2.2.2.2.2.2.2.2.2.2.1) e12
                subst hn13
                refine inv_op (o := ⟨some 52, _, _, _, _, _⟩) rfl (fun K' hK' => ?_)
                go_simp
                (try rw [HA52.out])
                obtain ⟨h0, h1, h2, h3, h4, h5, h6, h7, h8, h9, h10, h11, h12, h13, h14, h15, h16, h17, h18, h19, h20, h21, h22, h23, h24, h25, h26, h27, h28, gF, gS, gR, gB⟩ := HI.out
                exact hK'.out _ _ ⟨⟨b0, b1, b2, b3, b4, b5, b6, b7, b8, b9, b10, b11, b12, true, b14, b15, b16, b17, b18, b19, b20, b21, b22, b23, b24, b25, b26, b27, b28, b29, s39, s40, s41, s42, _, s44, s45, s46, s47, s48, s49, s50, _, _, s53, s54, s55, s56, s57, s58, s59, s60, s61, s62, s63, s64, s65, s66, s67⟩, rfl, rfl, h0, h1, h2, h3, h4, h5, h6, h7, h8, h9, h10, h11, h12, (fun _ => rfl), h14, h15, h16, h17, h18, h19, h20, h21, h22, h23, h24, h25, h26, h27, h28, gF, gS, gR, gB⟩
              · have hn14 : b14 = false := by revert hp; cases b14 <;> simp
                clear hp
                subst hn14
                refine inv_op (o := ⟨some 53, _, _, _, _, _⟩) rfl (fun K' hK' => ?_)
                go_simp
                obtain ⟨h0, h1, h2, h3, h4, h5, h6, h7, h8, h9, h10, h11, h12, h13, h14, h15, h16, h17, h18, h19, h20, h21, h22, h23, h24, h25, h26, h27, h28, gF, gS, gR, gB⟩ := HI.out
                exact hK'.out _ _ ⟨⟨b0, b1, b2, b3, b4, b5, b6, b7, b8, b9, b10, b11, b12, b13, true, b15, b16, b17, b18, b19, b20, b21, b22, b23, b24, b25, b26, b27, b28, b29, s39, s40, s41, s42, s43, s44, s45, s46, s47, s48, s49, s50, s51, s52, _, s54, s55, s56, s57, s58, s59, s60, s61, s62, s63, s64, s65, s66, s67⟩, rfl, rfl, h0, h1, h2, h3, h4, h5, h6, h7, h8, h9, h10, h11, h12, h13, (fun _ => rfl), h15, h16, h17, h18, h19, h20, h21, h22, h23, h24, h25, h26, h27, h28, gF, gS, gR, gB⟩
              · have hn15 : b15 = false := by revert hp; cases b15 <;> simp
                have e14 : b14 = true := by revert hp; cases b14 <;> simp
                clear hp
                obtain rfl := (HI.out.2.2.2.2.2.2.2.2.2.2.2.2.2.2.1) e14
                subst hn15
                refine inv_op (o := ⟨some 54, _, _, _, _, _⟩) rfl (fun K' hK' => ?_)
                have hw := HW7.out
                go_simp
                (try rw [hw])
                obtain ⟨h0, h1, h2, h3, h4, h5, h6, h7, h8, h9, h10, h11, h12, h13, h14, h15, h16, h17, h18, h19, h20, h21, h22, h23, h24, h25, h26, h27, h28, gF, gS, gR, gB⟩ := HI.out
                exact hK'.out _ _ ⟨⟨b0, b1, b2, b3, b4, b5, b6, b7, b8, b9, b10, b11, b12, b13, b14, true, b16, b17, b18, b19, b20, b21, b22, b23, b24, b25, b26, b27, b28, b29, s39, s40, s41, s42, s43, s44, s45, s46, s47, s48, s49, s50, s51, s52, _, _, s55, s56, s57, s58, s59, s60, s61, s62, s63, s64, s65, s66, s67⟩, rfl, rfl, h0, h1, h2, h3, h4, h5, h6, h7, h8, h9, h10, h11, h12, h13, h14, (fun _ => rfl), h16, h17, h18, h19, h20, h21, h22, h23, h24, h25, h26, h27, h28, gF, gS, gR, gB⟩
              · have hn16 : b16 = false := by revert hp; cases b16 <;> simp
                have e15 : b15 = true := by revert hp; cases b15 <;> simp
                clear hp
                obtain rfl := (HI.out.2.2.2.2.2.2.2.2.2.2.2.2.2.2.2.1) e15
                subst hn16
                refine inv_op (o := ⟨some 55, _, _, _, _, _⟩) rfl (fun K' hK' => ?_)
                have q1 : (7 : Int) ≤ (i : Int) := by omega
                have q2 : (i : Int) - 7 < 64 := by omega
                have q3 : ((i : Int) - 7).toNat = i - 7 := by omega
                go_simp
                obtain ⟨h0, h1, h2, h3, h4, h5, h6, h7, h8, h9, h10, h11, h12, h13, h14, h15, h16, h17, h18, h19, h20, h21, h22, h23, h24, h25, h26, h27, h28, gF, gS, gR, gB⟩ := HI.out
                exact hK'.out _ _ ⟨⟨b0, b1, b2, b3, b4, b5, b6, b7, b8, b9, b10, b11, b12, b13, b14, b15, true, b17, b18, b19, b20, b21, b22, b23, b24, b25, b26, b27, b28, b29, s39, s40, s41, s42, s43, s44, s45, s46, s47, s48, s49, s50, s51, s52, s53, _, _, s56, s57, s58, s59, s60, s61, s62, s63, s64, s65, s66, s67⟩, rfl, rfl, h0, h1, h2, h3, h4, h5, h6, h7, h8, h9, h10, h11, h12, h13, h14, h15, (fun _ => rfl), h17, h18, h19, h20, h21, h22, h23, h24, h25, h26, h27, h28, gF, gS, gR, gB⟩
              · have hn17 : b17 = false := by revert hp; cases b17 <;> simp
                have e16 : b16 = true := by revert hp; cases b16 <;> simp
                clear hp
                obtain rfl := (HI.out.2.2.2.2.2.2.2.2.2.2.2.2.2.2.2.2.1) e16
                subst hn17
                refine inv_op (o := ⟨some 56, _, _, _, _, _⟩) rfl (fun K' hK' => ?_)
                have gF := HI.out.2.2.2.2.2.2.2.2.2.2.2.2.2.2.2.2.2.2.2.2.2.2.2.2.2.2.2.2.2.1
                have gS := HI.out.2.2.2.2.2.2.2.2.2.2.2.2.2.2.2.2.2.2.2.2.2.2.2.2.2.2.2.2.2.2.1
                have b29f : b29 = false := by cases b29 with | false => rfl | true => exact absurd (gF rfl) (by simp)
                subst b29f
                have hc := HCS.out W gS
                have hc := hc.2
                go_simp
                obtain ⟨h0, h1, h2, h3, h4, h5, h6, h7, h8, h9, h10, h11, h12, h13, h14, h15, h16, h17, h18, h19, h20, h21, h22, h23, h24, h25, h26, h27, h28, gF, gS, gR, gB⟩ := HI.out
                exact hK'.out _ _ ⟨⟨b0, b1, b2, b3, b4, b5, b6, b7, b8, b9, b10, b11, b12, b13, b14, b15, b16, true, b18, b19, b20, b21, b22, b23, b24, b25, b26, b27, b28, false, s39, s40, s41, s42, s43, s44, s45, s46, s47, s48, s49, s50, s51, s52, s53, s54, _, _, s57, s58, s59, s60, s61, s62, s63, s64, s65, s66, s67⟩, rfl, rfl, h0, h1, h2, h3, h4, h5, h6, h7, h8, h9, h10, h11, h12, h13, h14, h15, h16, (fun _ => rfl), h18, h19, h20, h21, h22, h23, h24, h25, h26, h27, h28, (fun h => by cases h), gS, gR, gB⟩
              · have hn18 : b18 = false := by revert hp; cases b18 <;> simp
                have e13 : b13 = true := by revert hp; cases b13 <;> simp
                have e17 : b17 = true := by revert hp; cases b17 <;> simp
                clear hp
                obtain rfl := (HI.out.2.2.2.2.2.2.2.2.2.2.2.2.2.1) e13
                obtain rfl := (HI.out.2.2.2.2.2.2.2.2.2.2.2.2.2.2.2.2.2.1) e17
                subst hn18
                refine inv_op (o := ⟨some 57, _, _, _, _, _⟩) rfl (fun K' hK' => ?_)
                go_simp
                (try rw [HA57.out])
                obtain ⟨h0, h1, h2, h3, h4, h5, h6, h7, h8, h9, h10, h11, h12, h13, h14, h15, h16, h17, h18, h19, h20, h21, h22, h23, h24, h25, h26, h27, h28, gF, gS, gR, gB⟩ := HI.out
                exact hK'.out _ _ ⟨⟨b0, b1, b2, b3, b4, b5, b6, b7, b8, b9, b10, b11, b12, b13, b14, b15, b16, b17, true, b19, b20, b21, b22, b23, b24, b25, b26, b27, b28, b29, s39, s40, s41, s42, s43, s44, s45, s46, s47, s48, s49, s50, s51, _, s53, s54, s55, _, _, s58, s59, s60, s61, s62, s63, s64, s65, s66, s67⟩, rfl, rfl, h0, h1, h2, h3, h4, h5, h6, h7, h8, h9, h10, h11, h12, h13, h14, h15, h16, h17, (fun _ => rfl), h19, h20, h21, h22, h23, h24, h25, h26, h27, h28, gF, gS, gR, gB⟩
              · have hn19 : b19 = false := by revert hp; cases b19 <;> simp
                clear hp
                subst hn19
                refine inv_op (o := ⟨some 58, _, _, _, _, _⟩) rfl (fun K' hK' => ?_)
                go_simp
                obtain ⟨h0, h1, h2, h3, h4, h5, h6, h7, h8, h9, h10, h11, h12, h13, h14, h15, h16, h17, h18, h19, h20, h21, h22, h23, h24, h25, h26, h27, h28, gF, gS, gR, gB⟩ := HI.out
                exact hK'.out _ _ ⟨⟨b0, b1, b2, b3, b4, b5, b6, b7, b8, b9, b10, b11, b12, b13, b14, b15, b16, b17, b18, true, b20, b21, b22, b23, b24, b25, b26, b27, b28, b29, s39, s40, s41, s42, s43, s44, s45, s46, s47, s48, s49, s50, s51, s52, s53, s54, s55, s56, s57, _, s59, s60, s61, s62, s63, s64, s65, s66, s67⟩, rfl, rfl, h0, h1, h2, h3, h4, h5, h6, h7, h8, h9, h10, h11, h12, h13, h14, h15, h16, h17, h18, (fun _ => rfl), h20, h21, h22, h23, h24, h25, h26, h27, h28, gF, gS, gR, gB⟩
              · have hn20 : b20 = false := by revert hp; cases b20 <;> simp
                have e19 : b19 = true := by revert hp; cases b19 <;> simp
                clear hp
                obtain rfl := (HI.out.2.2.2.2.2.2.2.2.2.2.2.2.2.2.2.2.2.2.2.1) e19
                subst hn20
                refine inv_op (o := ⟨some 59, _, _, _, _, _⟩) rfl (fun K' hK' => ?_)
                go_simp
                refine (refRot_any x14 17 (by assumption) (by decide) (by decide) W).mono ?_
                rintro e w1 ⟨rfl, rfl⟩
                obtain ⟨h0, h1, h2, h3, h4, h5, h6, h7, h8, h9, h10, h11, h12, h13, h14, h15, h16, h17, h18, h19, h20, h21, h22, h23, h24, h25, h26, h27, h28, gF, gS, gR, gB⟩ := HI.out
                exact hK'.out _ _ ⟨⟨b0, b1, b2, b3, b4, b5, b6, b7, b8, b9, b10, b11, b12, b13, b14, b15, b16, b17, b18, b19, true, b21, b22, b23, b24, b25, b26, b27, b28, b29, s39, s40, s41, s42, s43, s44, s45, s46, s47, s48, s49, s50, s51, s52, s53, s54, s55, s56, s57, _, _, s60, s61, s62, s63, s64, s65, s66, s67⟩, rfl, rfl, h0, h1, h2, h3, h4, h5, h6, h7, h8, h9, h10, h11, h12, h13, h14, h15, h16, h17, h18, h19, (fun _ => rfl), h21, h22, h23, h24, h25, h26, h27, h28, gF, gS, gR, gB⟩
              · have hn21 : b21 = false := by revert hp; cases b21 <;> simp
                clear hp
                subst hn21
                refine inv_op (o := ⟨some 60, _, _, _, _, _⟩) rfl (fun K' hK' => ?_)
                go_simp
                obtain ⟨h0, h1, h2, h3, h4, h5, h6, h7, h8, h9, h10, h11, h12, h13, h14, h15, h16, h17, h18, h19, h20, h21, h22, h23, h24, h25, h26, h27, h28, gF, gS, gR, gB⟩ := HI.out
                exact hK'.out _ _ ⟨⟨b0, b1, b2, b3, b4, b5, b6, b7, b8, b9, b10, b11, b12, b13, b14, b15, b16, b17, b18, b19, b20, true, b22, b23, b24, b25, b26, b27, b28, b29, s39, s40, s41, s42, s43, s44, s45, s46, s47, s48, s49, s50, s51, s52, s53, s54, s55, s56, s57, s58, s59, _, s61, s62, s63, s64, s65, s66, s67⟩, rfl, rfl, h0, h1, h2, h3, h4, h5, h6, h7, h8, h9, h10, h11, h12, h13, h14, h15, h16, h17, h18, h19, h20, (fun _ => rfl), h22, h23, h24, h25, h26, h27, h28, gF, gS, gR, gB⟩
              · have hn22 : b22 = false := by revert hp; cases b22 <;> simp
                have e21 : b21 = true := by revert hp; cases b21 <;> simp
                clear hp
                obtain rfl := (HI.out.2.2.2.2.2.2.2.2.2.2.2.2.2.2.2.2.2.2.2.2.2.1) e21
                subst hn22
                refine inv_op (o := ⟨some 61, _, _, _, _, _⟩) rfl (fun K' hK' => ?_)
                go_simp
                refine (refRot_any x14 19 (by assumption) (by decide) (by decide) W).mono ?_
                rintro e w1 ⟨rfl, rfl⟩
                obtain ⟨h0, h1, h2, h3, h4, h5, h6, h7, h8, h9, h10, h11, h12, h13, h14, h15, h16, h17, h18, h19, h20, h21, h22, h23, h24, h25, h26, h27, h28, gF, gS, gR, gB⟩ := HI.out
                exact hK'.out _ _ ⟨⟨b0, b1, b2, b3, b4, b5, b6, b7, b8, b9, b10, b11, b12, b13, b14, b15, b16, b17, b18, b19, b20, b21, true, b23, b24, b25, b26, b27, b28, b29, s39, s40, s41, s42, s43, s44, s45, s46, s47, s48, s49, s50, s51, s52, s53, s54, s55, s56, s57, s58, s59, _, _, s62, s63, s64, s65, s66, s67⟩, rfl, rfl, h0, h1, h2, h3, h4, h5, h6, h7, h8, h9, h10, h11, h12, h13, h14, h15, h16, h17, h18, h19, h20, h21, (fun _ => rfl), h23, h24, h25, h26, h27, h28, gF, gS, gR, gB⟩
              · have hn23 : b23 = false := by revert hp; cases b23 <;> simp
                have e20 : b20 = true := by revert hp; cases b20 <;> simp
                have e22 : b22 = true := by revert hp; cases b22 <;> simp
                clear hp
                obtain rfl := (HI.out.2.2.2.2.2.2.2.2.2.2.2.2.2.2.2.2.2.2.2.2.1) e20
                obtain rfl := (HI.out.2.2.2.2.2.2.2.2.2.2.2.2.2.2.2.2.2.2.2.2.2.2.1) e22
                subst hn23
                refine inv_op (o := ⟨some 62, _, _, _, _, _⟩) rfl (fun K' hK' => ?_)
                go_simp
                obtain ⟨h0, h1, h2, h3, h4, h5, h6, h7, h8, h9, h10, h11, h12, h13, h14, h15, h16, h17, h18, h19, h20, h21, h22, h23, h24, h25, h26, h27, h28, gF, gS, gR, gB⟩ := HI.out
                exact hK'.out _ _ ⟨⟨b0, b1, b2, b3, b4, b5, b6, b7, b8, b9, b10, b11, b12, b13, b14, b15, b16, b17, b18, b19, b20, b21, b22, true, b24, b25, b26, b27, b28, b29, s39, s40, s41, s42, s43, s44, s45, s46, s47, s48, s49, s50, s51, s52, s53, s54, s55, s56, s57, s58, _, s60, _, _, s63, s64, s65, s66, s67⟩, rfl, rfl, h0, h1, h2, h3, h4, h5, h6, h7, h8, h9, h10, h11, h12, h13, h14, h15, h16, h17, h18, h19, h20, h21, h22, (fun _ => rfl), h24, h25, h26, h27, h28, gF, gS, gR, gB⟩
              · have hn24 : b24 = false := by revert hp; cases b24 <;> simp
                clear hp
                subst hn24
                refine inv_op (o := ⟨some 63, _, _, _, _, _⟩) rfl (fun K' hK' => ?_)
                go_simp
                obtain ⟨h0, h1, h2, h3, h4, h5, h6, h7, h8, h9, h10, h11, h12, h13, h14, h15, h16, h17, h18, h19, h20, h21, h22, h23, h24, h25, h26, h27, h28, gF, gS, gR, gB⟩ := HI.out
                exact hK'.out _ _ ⟨⟨b0, b1, b2, b3, b4, b5, b6, b7, b8, b9, b10, b11, b12, b13, b14, b15, b16, b17, b18, b19, b20, b21, b22, b23, true, b25, b26, b27, b28, b29, s39, s40, s41, s42, s43, s44, s45, s46, s47, s48, s49, s50, s51, s52, s53, s54, s55, s56, s57, s58, s59, s60, s61, s62, _, s64, s65, s66, s67⟩, rfl, rfl, h0, h1, h2, h3, h4, h5, h6, h7, h8, h9, h10, h11, h12, h13, h14, h15, h16, h17, h18, h19, h20, h21, h22, h23, (fun _ => rfl), h25, h26, h27, h28, gF, gS, gR, gB⟩
              · have hn25 : b25 = false := by revert hp; cases b25 <;> simp
                have e24 : b24 = true := by revert hp; cases b24 <;> simp
                clear hp
                obtain rfl := (HI.out.2.2.2.2.2.2.2.2.2.2.2.2.2.2.2.2.2.2.2.2.2.2.2.2.1) e24
                subst hn25
                refine inv_op (o := ⟨some 64, _, _, _, _, _⟩) rfl (fun K' hK' => ?_)
                go_simp
                obtain ⟨h0, h1, h2, h3, h4, h5, h6, h7, h8, h9, h10, h11, h12, h13, h14, h15, h16, h17, h18, h19, h20, h21, h22, h23, h24, h25, h26, h27, h28, gF, gS, gR, gB⟩ := HI.out
                exact hK'.out _ _ ⟨⟨b0, b1, b2, b3, b4, b5, b6, b7, b8, b9, b10, b11, b12, b13, b14, b15, b16, b17, b18, b19, b20, b21, b22, b23, b24, true, b26, b27, b28, b29, s39, s40, s41, s42, s43, s44, s45, s46, s47, s48, s49, s50, s51, s52, s53, s54, s55, s56, s57, s58, s59, s60, s61, s62, _, _, s65, s66, s67⟩, rfl, rfl, h0, h1, h2, h3, h4, h5, h6, h7, h8, h9, h10, h11, h12, h13, h14, h15, h16, h17, h18, h19, h20, h21, h22, h23, h24, (fun _ => rfl), h26, h27, h28, gF, gS, gR, gB⟩
              · have hn26 : b26 = false := by revert hp; cases b26 <;> simp
                have e23 : b23 = true := by revert hp; cases b23 <;> simp
                have e25 : b25 = true := by revert hp; cases b25 <;> simp
                clear hp
                obtain rfl := (HI.out.2.2.2.2.2.2.2.2.2.2.2.2.2.2.2.2.2.2.2.2.2.2.2.1) e23
                obtain rfl := (HI.out.2.2.2.2.2.2.2.2.2.2.2.2.2.2.2.2.2.2.2.2.2.2.2.2.2.1) e25
                subst hn26
                refine inv_op (o := ⟨some 65, _, _, _, _, _⟩) rfl (fun K' hK' => ?_)
                go_simp
                (try rw [HS1.out])
                obtain ⟨h0, h1, h2, h3, h4, h5, h6, h7, h8, h9, h10, h11, h12, h13, h14, h15, h16, h17, h18, h19, h20, h21, h22, h23, h24, h25, h26, h27, h28, gF, gS, gR, gB⟩ := HI.out
                exact hK'.out _ _ ⟨⟨b0, b1, b2, b3, b4, b5, b6, b7, b8, b9, b10, b11, b12, b13, b14, b15, b16, b17, b18, b19, b20, b21, b22, b23, b24, b25, true, b27, b28, b29, s39, s40, s41, s42, s43, s44, s45, s46, s47, s48, s49, s50, s51, s52, s53, s54, s55, s56, s57, s58, s59, s60, s61, _, s63, _, _, s66, s67⟩, rfl, rfl, h0, h1, h2, h3, h4, h5, h6, h7, h8, h9, h10, h11, h12, h13, h14, h15, h16, h17, h18, h19, h20, h21, h22, h23, h24, h25, (fun _ => rfl), h27, h28, gF, gS, gR, gB⟩
              · have hn27 : b27 = false := by revert hp; cases b27 <;> simp
                have e18 : b18 = true := by revert hp; cases b18 <;> simp
                have e26 : b26 = true := by revert hp; cases b26 <;> simp
                clear hp
                obtain rfl := (HI.out.2.2.2.2.2.2.2.2.2.2.2.2.2.2.2.2.2.2.1) e18
                obtain rfl := (HI.out.2.2.2.2.2.2.2.2.2.2.2.2.2.2.2.2.2.2.2.2.2.2.2.2.2.2.1) e26
                subst hn27
                refine inv_op (o := ⟨some 66, _, _, _, _, _⟩) rfl (fun K' hK' => ?_)
                go_simp
                (try rw [HY66.out])
                obtain ⟨h0, h1, h2, h3, h4, h5, h6, h7, h8, h9, h10, h11, h12, h13, h14, h15, h16, h17, h18, h19, h20, h21, h22, h23, h24, h25, h26, h27, h28, gF, gS, gR, gB⟩ := HI.out
                exact hK'.out _ _ ⟨⟨b0, b1, b2, b3, b4, b5, b6, b7, b8, b9, b10, b11, b12, b13, b14, b15, b16, b17, b18, b19, b20, b21, b22, b23, b24, b25, b26, true, b28, b29, s39, s40, s41, s42, s43, s44, s45, s46, s47, s48, s49, s50, s51, s52, s53, s54, s55, s56, _, s58, s59, s60, s61, s62, s63, s64, _, _, s67⟩, rfl, rfl, h0, h1, h2, h3, h4, h5, h6, h7, h8, h9, h10, h11, h12, h13, h14, h15, h16, h17, h18, h19, h20, h21, h22, h23, h24, h25, h26, (fun _ => rfl), h28, gF, gS, gR, gB⟩
              · have hn28 : b28 = false := by revert hp; cases b28 <;> simp
                have e0 : b0 = true := by revert hp; cases b0 <;> simp
                clear hp
                obtain rfl := (HI.out.1) e0
                subst hn28
                refine inv_op (o := ⟨some 67, _, _, _, _, _⟩) rfl (fun K' hK' => ?_)
                go_simp
                obtain ⟨h0, h1, h2, h3, h4, h5, h6, h7, h8, h9, h10, h11, h12, h13, h14, h15, h16, h17, h18, h19, h20, h21, h22, h23, h24, h25, h26, h27, h28, gF, gS, gR, gB⟩ := HI.out
                exact hK'.out _ _ ⟨⟨b0, b1, b2, b3, b4, b5, b6, b7, b8, b9, b10, b11, b12, b13, b14, b15, b16, b17, b18, b19, b20, b21, b22, b23, b24, b25, b26, b27, true, b29, _, s40, s41, s42, s43, s44, s45, s46, s47, s48, s49, s50, s51, s52, s53, s54, s55, s56, s57, s58, s59, s60, s61, s62, s63, s64, s65, s66, _⟩, rfl, rfl, h0, h1, h2, h3, h4, h5, h6, h7, h8, h9, h10, h11, h12, h13, h14, h15, h16, h17, h18, h19, h20, h21, h22, h23, h24, h25, h26, h27, (fun _ => rfl), gF, gS, gR, gB⟩
              · have hn29 : b29 = false := by revert hp; cases b29 <;> simp
                have e28 : b28 = true := by revert hp; cases b28 <;> simp
                have e27 : b27 = true := by revert hp; cases b27 <;> simp
                have e4 : b4 = true := by revert hp; cases b4 <;> simp
                have e17 : b17 = true := by revert hp; cases b17 <;> simp
                clear hp
                obtain rfl := (HI.out.2.2.2.2.2.2.2.2.2.2.2.2.2.2.2.2.2.2.2.2.2.2.2.2.2.2.2.2.1) e28
                obtain rfl := (HI.out.2.2.2.2.2.2.2.2.2.2.2.2.2.2.2.2.2.2.2.2.2.2.2.2.2.2.2.1) e27
                subst hn29
                refine inv_op (o := ⟨none, _, _, _, _, _⟩) rfl (fun K' hK' => ?_)
                have gS := HI.out.2.2.2.2.2.2.2.2.2.2.2.2.2.2.2.2.2.2.2.2.2.2.2.2.2.2.2.2.2.2.1
                have gR := HI.out.2.2.2.2.2.2.2.2.2.2.2.2.2.2.2.2.2.2.2.2.2.2.2.2.2.2.2.2.2.2.2.1
                have gR2 := gR
                have hc := row_at gS (wRow_next l i (by omega))
                have hf := row_free (i := i) gS
                go_simp
                obtain ⟨h0, h1, h2, h3, h4, h5, h6, h7, h8, h9, h10, h11, h12, h13, h14, h15, h16, h17, h18, h19, h20, h21, h22, h23, h24, h25, h26, h27, h28, gF, gS, gR, gB⟩ := HI.out
                exact hK'.out _ _ ⟨⟨b0, b1, b2, b3, b4, b5, b6, b7, b8, b9, b10, b11, b12, b13, b14, b15, b16, b17, b18, b19, b20, b21, b22, b23, b24, b25, b26, b27, b28, true, s39, s40, s41, s42, s43, s44, s45, s46, s47, s48, s49, s50, s51, s52, s53, s54, s55, s56, s57, s58, s59, s60, s61, s62, s63, s64, s65, _, _⟩, rfl, rfl, h0, h1, h2, h3, h4, h5, h6, h7, h8, h9, h10, h11, h12, h13, h14, h15, h16, h17, h18, h19, h20, h21, h22, h23, h24, h25, h26, h27, h28, (fun _ => ⟨e4, e17⟩), (by rw [if_pos rfl, ← wRow_set l i y (by omega) HY.out]; exact row_set gS _), ((heap_setCell_other _ _ _ _ (by simp)).trans gR), (gB.setCell (by simp) _)⟩
            case hdone =>
              rintro ⟨b0, b1, b2, b3, b4, b5, b6, b7, b8, b9, b10, b11, b12, b13, b14, b15, b16, b17, b18, b19, b20, b21, b22, b23, b24, b25, b26, b27, b28, b29, s39, s40, s41, s42, s43, s44, s45, s46, s47, s48, s49, s50, s51, s52, s53, s54, s55, s56, s57, s58, s59, s60, s61, s62, s63, s64, s65, s66, s67⟩ W hI hall
              dsimp only at hI hall ⊢
              have HI := Lib.hid hI
              clear hI
              obtain rfl : b29 = true := hall 29 (by decide)
              have gS := HI.out.2.2.2.2.2.2.2.2.2.2.2.2.2.2.2.2.2.2.2.2.2.2.2.2.2.2.2.2.2.2.1
              have gR := HI.out.2.2.2.2.2.2.2.2.2.2.2.2.2.2.2.2.2.2.2.2.2.2.2.2.2.2.2.2.2.2.2.1
              have gB := HI.out.2.2.2.2.2.2.2.2.2.2.2.2.2.2.2.2.2.2.2.2.2.2.2.2.2.2.2.2.2.2.2.2
              clear HI hall
              rw [if_pos rfl] at gS
              have GS := Lib.hid gS
              have GR := Lib.hid gR
              have GB := Lib.hid gB
              clear gS gR gB
              go_wp2_with fail
              go_roundw
              case rel => exact ⟨i + 1, by omega, by omega, by go_num, GS.out, GR.out, GB.out⟩
              case measure => simp [intOf]; omega
          · obtain rfl : i = 64 := by omega
            have hw64 := HW.out
            rw [wRow_all] at hw64
            have H64 := Lib.hid hw64
            have HS := Lib.hid (show (some 64 : Option Nat) = some (u32s (wTo l 64)).toArray.size by simp [wTo_length])
            have HZ := Lib.hid (show zero64.size = (u32s (wTo l 64)).toArray.size by rw [zero64_size]; simp [wTo_length])
            clear hw64
            go_wp2_with (first | (refine wpList_load_row rfl 26 _ rfl (w.heap.size + 1) rfl 26 (u32s (wTo l 64)).toArray (0, 0) _ H64.out und64x32 rfl (info64x32.trans HS.out) ?_) | (refine wpList_store_row rfl 26 _ _ rfl w.heap.size (u32s (wTo l 64)).toArray rfl rfl 26 zero64 HR.out (info64x32.trans HS.out) HZ.out (u32s_one _) ?_))
            refine bodyPost_ret (results_cell_row rfl _ _ w.heap.size 26 _ (0, 0) _ rfl (setRow_heap _ _ _ _ _ _ HR.out) und64x32 rfl (info64x32.trans HS.out)) rfl ⟨rfl, ?_⟩
            exact below_setRow HB.out (Nat.le_refl _) _
end Go.Proofs.YtfaiblngchdpmaaDoor
