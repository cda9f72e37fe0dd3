/- What Words answers, for every block. -/
import Derived.Test.YtfaiblngchdpmaaDoorShaT
import Derived.Test.YtfaiblngchdpmaaDoorNumHi
import Derived.Deep.MidRow
import Derived.Deep.RegionHeld3
namespace Go.Proofs.YtfaiblngchdpmaaDoor
open Go.RowKit Go.Lib

theorem info64x32 : (Tryd.prog.info? 26).map (·.size) = some 64 := by kernel_rfl
theorem und64x32 : Tryd.prog.underlying 26 = some (.array 64 22) := by kernel_rfl
def zero64 : Array Value := (u32s (List.replicate 64 0)).toArray
theorem zero64_lit : zero64 = #[.int .u32 0, .int .u32 0, .int .u32 0, .int .u32 0, .int .u32 0, .int .u32 0, .int .u32 0, .int .u32 0, .int .u32 0, .int .u32 0, .int .u32 0, .int .u32 0, .int .u32 0, .int .u32 0, .int .u32 0, .int .u32 0, .int .u32 0, .int .u32 0, .int .u32 0, .int .u32 0, .int .u32 0, .int .u32 0, .int .u32 0, .int .u32 0, .int .u32 0, .int .u32 0, .int .u32 0, .int .u32 0, .int .u32 0, .int .u32 0, .int .u32 0, .int .u32 0, .int .u32 0, .int .u32 0, .int .u32 0, .int .u32 0, .int .u32 0, .int .u32 0, .int .u32 0, .int .u32 0, .int .u32 0, .int .u32 0, .int .u32 0, .int .u32 0, .int .u32 0, .int .u32 0, .int .u32 0, .int .u32 0, .int .u32 0, .int .u32 0, .int .u32 0, .int .u32 0, .int .u32 0, .int .u32 0, .int .u32 0, .int .u32 0, .int .u32 0, .int .u32 0, .int .u32 0, .int .u32 0, .int .u32 0, .int .u32 0, .int .u32 0, .int .u32 0] := by kernel_rfl
theorem zero64_size : zero64.size = 64 := by kernel_rfl
set_option maxHeartbeats 2000000 in
set_option maxRecDepth 100000 in
theorem words_other (a : Option Addr) (n c : Nat) (hn : n ≠ 64) (w : World) :
    Calls Tryd.prog 8 #[.slice a n c] w fun z w' => z = .returned (.agg zero64) ∧ Below w.heap.size w w' := by
  have hne : ((n : Int) != 64) = true := by rw [bne_iff_ne]; omega
  clear hn
  go_enter Tryd.func8, Tryd.ntmps8
  go_upto_region 2 with fail
  rw [← zero64_lit]
  go_wp2_with (first | (refine wpList_load_row rfl 26 _ rfl (w.heap.size + 1) rfl 26 zero64 (0, 0) _ (heap_alloc2_new w _ _) und64x32 rfl info64x32 ?_) | (refine wpList_store_row rfl 26 _ _ rfl w.heap.size zero64 rfl rfl 26 zero64 (heap_alloc2_old w _ _) info64x32 rfl (by decide +kernel) ?_))
  refine bodyPost_ret (results_cell_row rfl _ _ w.heap.size 26 _ (0, 0) _ rfl (setRow_heap _ _ _ _ _ _ (heap_alloc2_old w _ _)) und64x32 rfl info64x32) rfl ⟨rfl, ?_⟩
  exact below_setRow (((Below.refl _ _).alloc (Nat.le_refl _) _).alloc (by simp) _) (Nat.le_refl _) _

/-- The words that are laid when i rounds are over. -/
def wRow (l : List UInt8) (i : Nat) : List Value := u32s (wTo l i ++ List.replicate (64 - i) 0)
theorem wRow_length (l : List UInt8) (i : Nat) (h : i ≤ 64) : (wRow l i).length = 64 := by simp [wRow, wTo_length]; omega
theorem wRow_zero (l : List UInt8) : (wRow l 0).toArray = zero64 := rfl
theorem wRow_all (l : List UInt8) : wRow l 64 = u32s (wTo l 64) := by simp [wRow]
theorem wRow_at (l : List UInt8) (i j : Nat) (h : j < i) : (wRow l i)[j]? = some (.int .u32 ((wTo l i).getD j 0 : Nat)) := by
  have hl := wTo_length l i
  simp [wRow, u32s, List.getElem?_append, hl, h]
theorem wRow_set (l : List UInt8) (i x : Nat) (h : i < 64) (hx : wTo l (i + 1) = wTo l i ++ [x]) : (wRow l i).set i (.int .u32 (x : Nat)) = wRow l (i + 1) := by
  obtain ⟨m, hm⟩ : ∃ m, 64 - i = m + 1 := ⟨63 - i, by omega⟩
  have hm' : 64 - (i + 1) = m := by omega
  have hl := wTo_length l i
  unfold wRow u32s
  rw [hm, hm', hx, List.replicate_succ, List.map_append, List.set_append]
  simp [hl]
theorem wRow_next (l : List UInt8) (i : Nat) (h : i < 64) : (wRow l i)[i]? = some (.int .u32 0) := by
  have hl := wTo_length l i
  obtain ⟨m, hm⟩ : ∃ m, 64 - i = m + 1 := ⟨63 - i, by omega⟩
  simp [wRow, u32s, hl, hm, List.replicate_succ]
theorem u32s_one (l : List Nat) : (u32s l).toArray.all (·.oneCell') = true := all_oneCell_toArray (fun v hv => by
  obtain ⟨x, _, rfl⟩ := List.mem_map.1 hv
  rfl)
theorem getD_32 {l : List Nat} (h : All32 l) (i : Nat) : l.getD i 0 < 4294967296 := by
  rw [List.getD_eq_getElem?_getD]
  rcases hx : l[i]? with _ | x
  · simp
  · exact h x (List.mem_of_getElem? hx)
theorem wTo_32 (l : List UInt8) (i : Nat) : All32 (wTo l i) := by
  induction i with
  | zero => intro x hx; cases hx
  | succ i ih =>
    intro x hx
    simp only [wTo, List.mem_append, List.mem_singleton] at hx
    rcases hx with hx | rfl
    · exact ih x hx
    · split
      · unfold wordAt
        have h1 := beN_lt ((l.drop (4 * i)).take 4)
        have h2 : ((l.drop (4 * i)).take 4).length ≤ 4 := by simp; omega
        have h3 : 256 ^ ((l.drop (4 * i)).take 4).length ≤ 256 ^ 4 := Nat.pow_le_pow_right (by decide) h2
        exact Nat.lt_of_lt_of_le h1 h3
      · exact Nat.mod_lt _ (by decide)
theorem wTo_lo (l : List UInt8) (i y : Nat) (hi : i < 16) (hy : y = beN ((l.drop (4 * i)).take 4)) : wTo l (i + 1) = wTo l i ++ [y] := by
  rw [hy]
  show wTo l i ++ [if i < 16 then wordAt l i else wNext (wTo l i) i] = _
  rw [if_pos hi]
  rfl
theorem wTo_hi (l : List UInt8) (j x0 x1 x9 x14 : Nat) (h0 : x0 = (wTo l (j + 16)).getD j 0) (h1 : x1 = (wTo l (j + 16)).getD (j + 1) 0) (h9 : x9 = (wTo l (j + 16)).getD (j + 9) 0) (h14 : x14 = (wTo l (j + 16)).getD (j + 14) 0) :
    wTo l (j + 16 + 1) = wTo l (j + 16) ++ [(sm1 x14 + x9 + sm0 x1 + x0) % 4294967296] := by
  show wTo l (j + 16) ++ [if j + 16 < 16 then wordAt l (j + 16) else wNext (wTo l (j + 16)) (j + 16)] = _
  rw [if_neg (by omega)]
  unfold wNext
  rw [show j + 16 - 2 = j + 14 by omega, show j + 16 - 7 = j + 9 by omega, show j + 16 - 15 = j + 1 by omega, show j + 16 - 16 = j by omega, ← h0, ← h1, ← h9, ← h14]
  rfl
theorem sm0_32 (x : Nat) (h : x < 4294967296) : bits BinOp.xor IntKind.u32 (bits BinOp.xor IntKind.u32 ((rotR x 7 : Nat) : Int) ((rotR x 18 : Nat) : Int)) ((x : Int) / 8) = ((sm0 x : Nat) : Int) := by
  have h8 : (x : Int) / (8 : Int) = ((x >>> 3 : Nat) : Int) := by rw [Nat.shiftRight_eq_div_pow]; omega
  rw [h8, x3_32 _ _ _ (rotR_lt h) (rotR_lt h) (by rw [Nat.shiftRight_eq_div_pow]; omega)]
  rfl
theorem sm1_32 (x : Nat) (h : x < 4294967296) : bits BinOp.xor IntKind.u32 (bits BinOp.xor IntKind.u32 ((rotR x 17 : Nat) : Int) ((rotR x 19 : Nat) : Int)) ((x : Int) / 1024) = ((sm1 x : Nat) : Int) := by
  have h8 : (x : Int) / (1024 : Int) = ((x >>> 10 : Nat) : Int) := by rw [Nat.shiftRight_eq_div_pow]; omega
  rw [h8, x3_32 _ _ _ (rotR_lt h) (rotR_lt h) (by rw [Nat.shiftRight_eq_div_pow]; omega)]
  rfl
theorem row_free {w : World} {g i : Nat} {xs : List Value} {t : TypeId} (h : w.heap[g]? = some (.cells xs.toArray t (0, 0))) : w.frozen? ⟨g, i, none⟩ = false := by simp [World.frozen?, h]
theorem row_at {w : World} {g i : Nat} {xs : List Value} {t : TypeId} {v : Value} (h : w.heap[g]? = some (.cells xs.toArray t (0, 0))) (hi : xs[i]? = some v) : w.cell? ⟨g, i, none⟩ = some v := by simp [World.cell?, h, hi]

set_option maxHeartbeats 4000000 in
set_option maxRecDepth 100000 in
theorem words_this (v : Value) (l : List UInt8) (w : World) (hv : IsBytes w v l) (hl : l.length = 64) :
    Calls Tryd.prog 8 #[v] w fun z w' => z = .returned (.agg (u32s (wTo l 64)).toArray) ∧ Below w.heap.size w w' := by
  rcases hv with ⟨a0, c0, rfl, rfl⟩ | ⟨b, off, cap, rfl, hc1, hc2, hb, hcell⟩
  · simp at hl
  · rw [hl]
    rw [hl] at hc1
    unfold maxLen at hc2
    have HC := Lib.hid hcell
    have HL := Lib.hid hl
    clear hcell hl
    go_enter Tryd.func8, Tryd.ntmps8
    go_upto_region 2 with fail
    rw [← zero64_lit]
    go_wp2_with fail
    go_loopw [5, 6, 7, 8, 13] (fun x5 x6 x7 x8 c wr => ∃ i : Nat, i ≤ 64 ∧ c = .int .i64 i ∧ wr.heap[w.heap.size + 1]? = some (.cells (wRow l i).toArray 26 (0, 0)) ∧ wr.heap[w.heap.size]? = some (.cells zero64 26 (0, 0)) ∧ Below w.heap.size w wr) (fun _ _ _ _ c _ => 64 - (intOf c).toNat)
    case atStart => exact ⟨0, by omega, rfl, by rw [wRow_zero]; exact heap_alloc2_new w _ _, heap_alloc2_old w _ _, ((Below.refl _ _).alloc (Nat.le_refl _) _).alloc (by simp) _⟩
    case round =>
      obtain ⟨i, hi, rfl, hrow, hres, hbw⟩ := hrel
      have HW := Lib.hid hrow
      have HR := Lib.hid hres
      have HB := Lib.hid hbw
      clear hrow hres hbw
      by_cases hlt : i < 64
      · by_cases hlo : i < 16
        · have hm1 : IntKind.i64.wrap (4 * (i : Int)) = 4 * (i : Int) := IntWalk.i64_in _ (by omega)
          have hm2 : IntKind.i64.wrap (4 * ((i : Int) + 1)) = 4 * ((i : Int) + 1) := IntWalk.i64_in _ (by omega)
          have hsz := HB.out.size
          have hsz1 : w.heap.size + 1 < wr.heap.size := (Array.getElem?_eq_some_iff.1 HW.out).1
          have hib : IsBytes wr (.slice (some ⟨b, off + 4 * i, none⟩) (4 * (i + 1) - 4 * i) (cap - 4 * i)) ((l.drop (4 * i)).take 4) := by
            have h4 : ((l.drop (4 * i)).take 4).length = 4 := by have := HL.out; simp; omega
            refine .inr ⟨b, off + 4 * i, cap - 4 * i, by rw [h4, show 4 * (i + 1) - 4 * i = 4 by omega], by omega, by unfold maxLen; omega, by omega, fun q hq => ?_⟩
            rw [h4] at hq
            rw [Nat.add_assoc, HB.out.cell (by simpa using hb), HC.out (4 * i + q) (by have := HL.out; omega)]
            simp [hq]
          have hfb := fromBe_any _ _ wr hib
          rw [show (((l.drop (4 * i)).take 4).take 8) = (l.drop (4 * i)).take 4 from List.take_of_length_le (by simp; omega)] at hfb
          obtain ⟨y, hy⟩ : ∃ y, y = beN ((l.drop (4 * i)).take 4) := ⟨_, rfl⟩
          have hyl : y < 4294967296 := by
            have h1 := beN_lt ((l.drop (4 * i)).take 4)
            have h4 : ((l.drop (4 * i)).take 4).length = 4 := by have := HL.out; simp; omega
            rw [h4, ← hy] at h1
            exact h1
          rw [← hy] at hfb
          have hyw : IntKind.u32.wrap (y : Int) = (y : Int) := IntWalk.u32_in _ (by omega)
          have HY := Lib.hid (wTo_lo l i y hlo hy)
          have HFB := Lib.hid hfb
          clear hib hfb hy
          go_wp2_with fail
          refine HFB.out.mono ?_
          rintro e w1 ⟨rfl, hb1⟩
          have HW1 := Lib.hid ((hb1.block _ hsz1).trans HW.out)
          have HR1 := Lib.hid ((hb1.block _ (by omega)).trans HR.out)
          have HB1 := Lib.hid (HB.out.trans (hb1.mono hsz))
          have cy : w1.cell? ⟨w.heap.size + 1, i, none⟩ = some (.int .u32 0) := row_at HW1.out (wRow_next l _ hlt)
          have fy : w1.frozen? ⟨w.heap.size + 1, i, none⟩ = false := row_free HW1.out
          clear hb1
          go_wp2
          go_roundw
          case rel => exact ⟨i + 1, by omega, by go_num, by rw [← wRow_set l i y hlt HY.out]; exact row_set HW1.out _, by rw [heap_setCell_other _ _ _ _ (by simp)]; exact HR1.out, HB1.out.setCell (by simp) _⟩
          case measure => simp [intOf]; omega
        · obtain ⟨j, rfl⟩ : ∃ j, i = j + 16 := ⟨i - 16, by omega⟩
          obtain ⟨x0, hx0⟩ : ∃ x, x = (wTo l (j + 16)).getD j 0 := ⟨_, rfl⟩
          obtain ⟨x1, hx1⟩ : ∃ x, x = (wTo l (j + 16)).getD (j + 1) 0 := ⟨_, rfl⟩
          obtain ⟨x9, hx9⟩ : ∃ x, x = (wTo l (j + 16)).getD (j + 9) 0 := ⟨_, rfl⟩
          obtain ⟨x14, hx14⟩ : ∃ x, x = (wTo l (j + 16)).getD (j + 14) 0 := ⟨_, rfl⟩
          have c0 : wr.cell? ⟨w.heap.size + 1, j, none⟩ = some (.int .u32 (x0 : Nat)) := by rw [hx0]; exact row_at HW.out (wRow_at l _ _ (by omega))
          have c1 : wr.cell? ⟨w.heap.size + 1, j + 1, none⟩ = some (.int .u32 (x1 : Nat)) := by rw [hx1]; exact row_at HW.out (wRow_at l _ _ (by omega))
          have c9 : wr.cell? ⟨w.heap.size + 1, j + 9, none⟩ = some (.int .u32 (x9 : Nat)) := by rw [hx9]; exact row_at HW.out (wRow_at l _ _ (by omega))
          have c14 : wr.cell? ⟨w.heap.size + 1, j + 14, none⟩ = some (.int .u32 (x14 : Nat)) := by rw [hx14]; exact row_at HW.out (wRow_at l _ _ (by omega))
          have c16 : wr.cell? ⟨w.heap.size + 1, j + 16, none⟩ = some (.int .u32 0) := row_at HW.out (wRow_next l _ hlt)
          have f16 : wr.frozen? ⟨w.heap.size + 1, j + 16, none⟩ = false := row_free HW.out
          have b1 : x1 < 4294967296 := by rw [hx1]; exact getD_32 (wTo_32 l _) _
          have b14 : x14 < 4294967296 := by rw [hx14]; exact getD_32 (wTo_32 l _) _
          have hs0 := sm0_32 x1 b1
          have hs1 := sm1_32 x14 b14
          have HY := Lib.hid (wTo_hi l j x0 x1 x9 x14 hx0 hx1 hx9 hx14)
          clear hx0 hx1 hx9 hx14
          go_wp2_with fail
          go_quiet (fail)
          go_wp2_with (go_at_call 21; refine (rot_any _ _ (by assumption) (by decide) (by decide) _).mono ?_; rintro e w' ⟨rfl, rfl⟩)
          go_region
          go_wp2
          go_roundw
          case rel =>
            have hv : (((sm1 x14 : Nat) : Int) + (x9 : Int) + ((sm0 x1 : Nat) : Int) + (x0 : Int)) % 4294967296 = (((sm1 x14 + x9 + sm0 x1 + x0) % 4294967296 : Nat) : Int) := by omega
            refine ⟨j + 16 + 1, by omega, by go_num, ?_, ?_, (below_drewN HB.out _).setCell (by simp) _⟩
            · rw [← wRow_set l (j + 16) _ hlt HY.out, hv]
              exact row_set (w := wr.drewN (nq + 1)) HW.out _
            · rw [heap_setCell_other _ _ _ _ (by simp)]
              exact HR.out
          case measure => simp [intOf]; omega
      · obtain rfl : i = 64 := by omega
        have hsz1 : w.heap.size + 1 < wr.heap.size := (Array.getElem?_eq_some_iff.1 HW.out).1
        have hw64 := HW.out
        rw [wRow_all] at hw64
        have H64 := Lib.hid hw64
        have HS := Lib.hid (show (some 64 : Option Nat) = some (u32s (wTo l 64)).toArray.size by simp [wTo_length])
        have HZ := Lib.hid (show zero64.size = (u32s (wTo l 64)).toArray.size by rw [zero64_size]; simp [wTo_length])
        clear hw64
        go_wp2_with (first | (refine wpList_load_row rfl 26 _ rfl (w.heap.size + 1) rfl 26 (u32s (wTo l 64)).toArray (0, 0) _ H64.out und64x32 rfl (info64x32.trans HS.out) ?_) | (refine wpList_store_row rfl 26 _ _ rfl w.heap.size (u32s (wTo l 64)).toArray rfl rfl 26 zero64 HR.out (info64x32.trans HS.out) HZ.out (u32s_one _) ?_))
        refine bodyPost_ret (results_cell_row rfl _ _ w.heap.size 26 _ (0, 0) _ rfl (setRow_heap _ _ _ _ _ _ HR.out) und64x32 rfl (info64x32.trans HS.out)) rfl ⟨rfl, ?_⟩
        exact below_setRow HB.out (Nat.le_refl _) _
end Go.Proofs.YtfaiblngchdpmaaDoor
