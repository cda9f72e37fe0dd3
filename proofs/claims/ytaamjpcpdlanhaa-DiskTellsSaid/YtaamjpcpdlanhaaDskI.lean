/- What the document's own New answers. -/
import Derived.Test.YtaamjpcpdlanhaaDskK
import Derived.Test.YtaamjpcpdlanhaaDskN
import Derived.Test.YtaamjpcpdlanhaaInv
import Derived.Deep.AppendLies
namespace Go.Proofs.Ytaamjpcpdlanhaa
open Go.RowKit Go.Lib

theorem run_zeros (W : World) : (Instr.makeSlice 35 (.int .i64 256) (.int .i64 256)).run Try.prog W = .ok (.slice (some ⟨W.heap.size, 0, none⟩) 256 256) (W.alloc (.cells (madeCells #[.int .u8 0] 256) 5)) :=
  run_make_row' (P := Try.prog) 35 5 (.int .u8 0) 1 Try.underlying35 info8 rfl .i64 .i64 256 (by decide) (by decide) W
/-- A block of another type stays where a slice of one's own is appended to. -/
theorem far_grownT {W W1 : World} {M n k s : Nat} {T : TypeId} {cv : Value} {xs : List Value} {cur : Array Value} {t : TypeId} {f : Nat × Nat} (hcv : W.ownsRow M T s cv n xs) (hg : W.grownBy W1 cv.ownBlock) (h : W.heap[k]? = some (.cells cur t f)) (ht : t ≠ T) : W1.heap[k]? = some (.cells cur t f) := by
  refine (hg.block k (Array.getElem?_eq_some_iff.1 h).1 (fun e => ?_)).trans h
  rcases hcv.2 with ⟨rfl, _⟩ | ⟨g, cap, c2, rfl, _, hh, _⟩
  · cases e
  · have e : k = g := by simpa [Value.ownBlock] using e
    subst e
    rw [h] at hh
    injection hh with hh
    injection hh with _ hh _
    exact ht hh
theorem owns_whole {w : World} {B g k : Nat} {cur : Array Value} {t : TypeId} (hg : w.heap[g]? = some (.cells cur t (0, 0))) (hs : cur.size = k) (hb : B ≤ g) (hk : k ≤ maxLen) : w.ownsRow B t 1 (.slice (some ⟨g, 0, none⟩) k k) k cur.toList :=
  ⟨by simp [hs], .inr ⟨g, k, cur, rfl, hb, hg, Nat.le_refl _, hk, by rw [hs]; simp, by rw [Nat.mul_one]; exact List.take_of_length_le (by simp [hs])⟩⟩
theorem tne7 : (5 : Nat) ≠ 35 := by decide
theorem tne8 : (25 : Nat) ≠ 35 := by decide
def zsec : List UInt8 := List.replicate 256 0
theorem zsec_len : zsec.length = 256 := List.length_replicate
/-- A row of sectors of noughts, all of one's own. -/
def ZRow (B : Nat) (W : World) (v : Value) (i : Nat) : Prop :=
  ∃ xs, W.ownsRow B 35 1 v i xs ∧ ∀ V ∈ xs, W.ownsRow B 5 1 V 256 (byteCells zsec)
theorem ZRow.below {B : Nat} {W W1 : World} {v : Value} {i : Nat} (h : ZRow B W v i) (hb : Below W.heap.size W W1) : ZRow B W1 v i := by
  obtain ⟨xs, h1, h2⟩ := h
  exact ⟨xs, ownsRow_below h1 hb, fun V hV => ownsRow_below (h2 V hV) hb⟩
theorem ZRow.box {B nb : Nat} {W : World} {v : Value} {k : Nat} {cs : Array Value} {f : Nat × Nat} (h : ZRow B W v k) (hn : W.heap[nb]? = some (.cells cs 25 f)) (i : Nat) (x : Value) : ZRow B (W.setCell ⟨nb, i, none⟩ x) v k := by
  obtain ⟨xs, h1, h2⟩ := h
  exact ⟨xs, owns_keep h1 fun k cur _ hc => far_box hn hc tne5 i x, fun V hV => owns_keep (h2 V hV) fun k cur _ hc => far_box hn hc tne4 i x⟩
theorem ZRow.sects {B : Nat} {W : World} {v : Value} {i : Nat} (h : ZRow B W v i) : Sects W v (List.replicate i zsec) := by
  obtain ⟨xs, h1, h2⟩ := h
  refine ⟨xs, by rw [List.length_replicate]; have := h1.1; omega, by rw [List.length_replicate]; exact held_of_owns h1, fun j V l hV hl => ?_⟩
  have h3 : l = zsec := by
    rw [List.getElem?_replicate] at hl
    split at hl
    · exact (Option.some.inj hl).symm
    · cases hl
  subst h3
  have h4 := h2 V (List.mem_of_getElem? hV)
  refine isArg_of_owns (base := B) (t := 5) ?_
  rw [zsec_len]
  exact h4
structure NSt (B nb rb : Nat) (w : World) (cv : Value) (i : Nat) (b1 b2 b3 b4 b6 : Bool) (s20 s21 s22 : Value) (W : World) : Prop where
  out : Below w.heap.size w W
  size : B ≤ W.heap.size
  low : w.heap.size ≤ B
  res : W.heap[rb]? = some (.cells #[.slice none 0 0, .slice none 0 0] 25 (0, 0))
  now : W.heap[nb]? = some (.cells #[if b6 = true then s22 else cv, .slice none 0 0] 25 (0, 0))
  o4 : b4 = true → b1 = true
  o3 : b3 = true → b2 = true
  o43 : b4 = true → b3 = true
  o6 : b6 = true → b4 = true
  g2 : b2 = true → ∃ g, s20 = .slice (some ⟨g, 0, none⟩) 256 256 ∧ W.ownsRow B 5 1 (.slice (some ⟨g, 0, none⟩) 256 256) 256 (byteCells zsec)
  g3 : b3 = true → b4 = false → ∃ g, s21 = .slice (some ⟨g, 0, none⟩) 1 1 ∧ W.heap[g]? = some (.cells #[s20] 35 (0, 0))
  own : b4 = false → ZRow B W cv i
  g4 : b4 = true → (∃ g c, s22 = .slice (some ⟨g, 0, none⟩) (i + 1) c) ∧ ZRow B W s22 (i + 1)
section
variable {B nb rb i : Nat} {w W : World} {cv : Value} {b1 b2 b3 b4 b6 : Bool} {s20 s21 s22 : Value}
theorem NSt.below {W1 : World} (h : NSt B nb rb w cv i b1 b2 b3 b4 b6 s20 s21 s22 W) (hb : Below W.heap.size W W1) : NSt B nb rb w cv i b1 b2 b3 b4 b6 s20 s21 s22 W1 where
  out := h.out.trans (hb.mono h.out.size)
  size := Nat.le_trans h.size hb.size
  low := h.low
  res := row_keep h.res hb
  now := row_keep h.now hb
  o4 := h.o4
  o3 := h.o3
  o43 := h.o43
  o6 := h.o6
  g2 := fun e => by obtain ⟨g, h1, h2⟩ := h.g2 e; exact ⟨g, h1, ownsRow_below h2 hb⟩
  g3 := fun e e2 => by obtain ⟨g, h1, h2⟩ := h.g3 e e2; exact ⟨g, h1, row_keep h2 hb⟩
  own := fun e => (h.own e).below hb
  g4 := fun e => ⟨(h.g4 e).1, (h.g4 e).2.below hb⟩
theorem NSt.any {t20 t21 t22 : Value} (h : NSt B nb rb w cv i false false false false false t20 t21 t22 W) (s20 s21 s22 : Value) : NSt B nb rb w cv i false false false false false s20 s21 s22 W where
  out := h.out
  size := h.size
  low := h.low
  res := h.res
  now := h.now
  o4 := h.o4
  o3 := h.o3
  o43 := h.o43
  o6 := h.o6
  g2 := (fun e => by cases e)
  g3 := (fun e => by cases e)
  own := h.own
  g4 := (fun e => by cases e)
theorem NSt.one (h : NSt B nb rb w cv i b1 b2 b3 b4 b6 s20 s21 s22 W) : NSt B nb rb w cv i true b2 b3 b4 b6 s20 s21 s22 W := { h with o4 := fun _ => rfl }
theorem NSt.two (h : NSt B nb rb w cv i b1 false b3 b4 b6 s20 s21 s22 W) : NSt B nb rb w cv i b1 true b3 b4 b6 (.slice (some ⟨W.heap.size, 0, none⟩) 256 256) s21 s22 (W.alloc (.cells (madeCells #[.int .u8 0] 256) 5)) :=
  have h1 := h.below ((Below.refl _ _).alloc (Nat.le_refl _) (.cells (madeCells #[.int .u8 0] 256) 5))
  { out := h1.out, size := h1.size, low := h1.low, res := h1.res, now := h1.now, o4 := h1.o4, o3 := fun _ => rfl, o43 := h1.o43, o6 := h1.o6, own := h1.own, g4 := h1.g4
    g2 := fun _ => ⟨_, rfl, by rw [show byteCells zsec = (madeCells #[Value.int .u8 0] 256).toList from (zeros_row 256).symm]; exact owns_whole (heap_alloc_new W _) (by simp [madeCells]) h.size (by decide)⟩
    g3 := fun e _ => absurd (h.o3 e) (by decide) }
theorem NSt.three (h : NSt B nb rb w cv i b1 true false b4 b6 s20 s21 s22 W) : NSt B nb rb w cv i b1 true true b4 b6 s20 (.slice (some ⟨W.heap.size, 0, none⟩) 1 1) s22 (W.alloc (.cells #[s20] 35)) :=
  have h1 := h.below ((Below.refl _ _).alloc (Nat.le_refl _) (.cells #[s20] 35))
  { out := h1.out, size := h1.size, low := h1.low, res := h1.res, now := h1.now, o4 := h1.o4, o3 := fun _ => rfl, o43 := fun _ => rfl, o6 := h1.o6, own := h1.own, g4 := h1.g4, g2 := h1.g2
    g3 := fun _ _ => ⟨_, rfl, heap_alloc_new W _⟩ }
theorem NSt.four {W1 : World} {g c g9 : Nat} {xs : List Value} (h : NSt B nb rb w cv i true true true false b6 (.slice (some ⟨g9, 0, none⟩) 256 256) s21 s22 W) (hown : W.ownsRow B 35 1 cv i xs) (hel : ∀ V ∈ xs, W.ownsRow B 5 1 V 256 (byteCells zsec))
    (h1 : W1.ownsRow B 35 1 (.slice (some ⟨g, 0, none⟩) (i + 1) c) (i + 1) (xs ++ [.slice (some ⟨g9, 0, none⟩) 256 256])) (hg : W.grownBy W1 cv.ownBlock) : NSt B nb rb w cv i true true true true b6 (.slice (some ⟨g9, 0, none⟩) 256 256) s21 (.slice (some ⟨g, 0, none⟩) (i + 1) c) W1 := by
  have hb6 : b6 = false := by
    cases b6 with
    | false => rfl
    | true => exact absurd (h.o6 rfl) (by decide)
  subst hb6
  obtain ⟨g8, e8, h8⟩ := h.g2 rfl
  cases e8
  have h9 := owns_keep h8 fun k cur _ hc => far_grownT hown hg hc tne7
  exact { out := h.out.grown hg h.out.size (fun k hk => Nat.le_trans h.low (hown.lt k hk).1), size := Nat.le_trans h.size hg.size, low := h.low, res := far_grownT hown hg h.res tne8, now := far_grownT hown hg h.now tne8, o4 := fun _ => rfl, o3 := fun _ => rfl, o43 := fun _ => rfl, o6 := fun _ => rfl, g2 := fun _ => ⟨_, rfl, h9⟩, g3 := (fun _ e => by cases e), own := (fun e => by cases e)
          g4 := fun _ => ⟨⟨_, _, rfl⟩, _, h1, fun V hV => by
            rcases List.mem_append.1 hV with hV | hV
            · exact owns_keep (hel V hV) fun k cur _ hc => far_grownT hown hg hc tne7
            · obtain rfl : V = _ := by simpa using hV
              exact h9⟩ }
theorem NSt.six (h : NSt B nb rb w cv i b1 b2 b3 true false s20 s21 s22 W) (hnb : w.heap.size ≤ nb) (hne : rb ≠ nb) : NSt B nb rb w cv i b1 b2 b3 true true s20 s21 s22 (W.setCell ⟨nb, 0, none⟩ s22) where
  out := h.out.setCell hnb _
  size := by have := h.size; simp only [World.setCell, Array.size_modify]; exact this
  low := h.low
  res := row_far h.res _ _ hne
  now := heap_setCell_same W nb 0 _ _ s22 h.now
  o4 := h.o4
  o3 := h.o3
  o43 := h.o43
  o6 := fun _ => rfl
  g2 := fun e => by obtain ⟨g, h1, h2⟩ := h.g2 e; exact ⟨g, h1, owns_keep h2 fun k cur _ hc => far_box h.now hc tne4 0 s22⟩
  g3 := (fun _ e => by cases e)
  own := (fun e => by cases e)
  g4 := fun e => ⟨(h.g4 e).1, (h.g4 e).2.box h.now 0 s22⟩
end

structure NewX where
  b0 : Bool
  b1 : Bool
  b2 : Bool
  b3 : Bool
  b4 : Bool
  b5 : Bool
  b6 : Bool
  s18 : Value
  s19 : Value
  s20 : Value
  s21 : Value
  s22 : Value
  s23 : Value
set_option maxHeartbeats 4000000 in
set_option maxRecDepth 100000 in
theorem refNew_any (z : Int) (w : World) :
    Calls Try.prog 23 #[.int .i64 z] w fun e w' => ∃ sv, e = .returned (.tuple #[.agg #[sv, .slice none 0 0], .int .i64 (newFault z)]) ∧ Sects w' sv (newOf z) ∧ Below w.heap.size w w' := by
  rcases newOf_cases z with ⟨z0, z1, h1, h2⟩ | ⟨hz, h1, h2⟩
  · rw [h1, h2]
    obtain ⟨n, rfl⟩ := Int.eq_ofNat_of_zero_le z0
    rw [Int.toNat_natCast]
    obtain ⟨j0, hji, hj0, hj1, hj2⟩ := info_parts infoS
    have hn : n ≤ 256 := by omega
    have h3 : decide ((n : Int) < 0) = false := decide_eq_false (by omega)
    have h4 : decide ((256 : Int) < (n : Int)) = false := decide_eq_false (by omega)
    have hb0 := ((Below.refl w.heap.size w).alloc (Nat.le_refl _) (.cells #[.slice none 0 0, .slice none 0 0] 25)).alloc (by simp) (.cells #[.slice none 0 0, .slice none 0 0] 25)
    have HB0 := Lib.hid hb0
    obtain ⟨hra, hrb, _⟩ := boxes_rows (w := w) (Below.refl ((w.alloc (.cells #[.slice none 0 0, .slice none 0 0] 25)).alloc (.cells #[.slice none 0 0, .slice none 0 0] 25)).heap.size _)
    have HRA := Lib.hid hra
    have HRB := Lib.hid hrb
    clear z0 z1 h1 h2 hb0 hra hrb
    go_enter Try.func23, Try.ntmps23
    go_wp2
    go_loopw [5] (fun x wr => ∃ i : Nat, i ≤ n ∧ x = .int .i64 i ∧ ∃ ca cc, NSt (w.heap.size + 2) (w.heap.size + 1) w.heap.size w (.slice ca i cc) i false false false false false undef undef undef wr) (fun x _ => n - (intOf x).toNat)
    case atStart =>
      exact ⟨0, Nat.zero_le _, rfl, none, 0, { out := HB0.out, size := by simp, low := by omega, res := HRA.out, now := HRB.out, o4 := (fun e => by cases e), o3 := (fun e => by cases e), o43 := (fun e => by cases e), o6 := (fun e => by cases e), g2 := (fun e => by cases e), g3 := (fun e => by cases e), own := fun _ => ⟨[], World.ownsRow_nil _ _ _ _, fun V hV => by cases hV⟩, g4 := (fun e => by cases e) }⟩
    case round =>
    obtain ⟨i, hi, rfl, ca, cc, hst⟩ := hrel
    have HST := Lib.hid hst
    clear hst
    by_cases hlt : i < n
    · have HCL := Lib.hid (show i + 1 ≤ maxLen ∧ (i + 1) * 24 ≤ 140737488355328 by unfold maxLen; omega)
      go_wp2_with fail
      refine wp_region_rec (X := NewX) (by kernel_rfl) (by kernel_rfl) (fun x => #[x.b0, x.b1, x.b2, x.b3, x.b4, x.b5, x.b6]) (fun x => { tmps := #[Value.int IntKind.i64 ↑n, undef, Value.pointer (some ⟨w.heap.size, 0, none⟩), Value.int IntKind.i64 0, Value.pointer (some ⟨w.heap.size + 1, 0, none⟩), Value.int IntKind.i64 ↑i, Value.int IntKind.i64 ↑n, Value.bool false, Value.bool false, Value.int IntKind.i64 ↑n, Value.bool false, Value.bool false, undef, Value.int IntKind.i64 ↑i, Value.int IntKind.i64 ↑n, Value.bool true, u16, u17, x.s18, x.s19, x.s20, x.s21, x.s22, x.s23, undef], defers := [] }) (fun x W => (x.b0 = true → x.s18 = .pointer (some ⟨w.heap.size + 1, 0, none⟩)) ∧ (x.b1 = true → x.s19 = .slice ca i cc) ∧ (x.b5 = true → x.s23 = .pointer (some ⟨w.heap.size + 1, 0, none⟩)) ∧ (NSt (w.heap.size + 2) (w.heap.size + 1) w.heap.size w (.slice ca i cc) i x.b1 x.b2 x.b3 x.b4 x.b6 x.s20 x.s21 x.s22 W)) ⟨false, false, false, false, false, false, false, u18, u19, u20, u21, u22, u23⟩ rfl rfl ⟨(fun h => by cases h), (fun h => by cases h), (fun h => by cases h), ((HST.out.any u20 u21 u22).below (Below.refl _ _).drew)⟩ (fun _ => rfl) ?hstep ?hdone
      case hstep =>
        rintro ⟨b0, b1, b2, b3, b4, b5, b6, s18, s19, s20, s21, s22, s23⟩ W hI i hi
        dsimp only at hI hi ⊢
        have HI := Lib.hid hI
        clear hI
        rw [Region.ready, List.mem_filter, List.mem_range] at hi
        obtain ⟨hlt, hp⟩ := hi
        have hi7 : i = 0 ∨ i = 1 ∨ i = 2 ∨ i = 3 ∨ i = 4 ∨ i = 5 ∨ i = 6 := by simp at hlt; omega
        clear hlt
        rcases hi7 with rfl | rfl | rfl | rfl | rfl | rfl | rfl
        all_goals simp [Region.binds] at hp
        · have hn0 : b0 = false := by revert hp; cases b0 <;> simp
          clear hp
          subst hn0
          refine inv_op (o := ⟨some 18, _, _, _, _, _⟩) rfl (fun K' hK' => ?_)
          go_simp
          obtain ⟨h0, h1, h5, gI⟩ := HI.out
          exact hK'.out _ _ ⟨⟨true, b1, b2, b3, b4, b5, b6, _, s19, s20, s21, s22, s23⟩, rfl, rfl, (fun _ => rfl), h1, h5, gI⟩
        · have hn1 : b1 = false := by revert hp; cases b1 <;> simp
          have e0 : b0 = true := by revert hp; cases b0 <;> simp
          clear hp
          obtain rfl := (HI.out.1) e0
          subst hn1
          refine inv_op (o := ⟨some 19, _, _, _, _, _⟩) rfl (fun K' hK' => ?_)
          have gI := HI.out.2.2.2
          have b4f : b4 = false := by cases b4 with | false => rfl | true => exact absurd (gI.o4 rfl) (by decide)
          subst b4f
          have b6f : b6 = false := by cases b6 with | false => rfl | true => exact absurd (gI.o6 rfl) (by decide)
          subst b6f
          obtain ⟨hc1, hc2⟩ := (box_cells gI.now).1
          rw [if_neg (by decide)] at hc1
          go_simp
          obtain ⟨h0, h1, h5, gI⟩ := HI.out
          exact hK'.out _ _ ⟨⟨b0, true, b2, b3, false, b5, false, _, _, s20, s21, s22, s23⟩, rfl, rfl, h0, (fun _ => rfl), h5, gI.one⟩
        · have hn2 : b2 = false := by revert hp; cases b2 <;> simp
          clear hp
          subst hn2
          refine inv_op (o := ⟨some 20, _, _, _, _, _⟩) rfl (fun K' hK' => ?_)
          have hmk := run_zeros
          go_simp
          obtain ⟨h0, h1, h5, gI⟩ := HI.out
          exact hK'.out _ _ ⟨⟨b0, b1, true, b3, b4, b5, b6, s18, s19, _, s21, s22, s23⟩, rfl, rfl, h0, h1, h5, gI.two⟩
        · have hn3 : b3 = false := by revert hp; cases b3 <;> simp
          have e2 : b2 = true := by revert hp; cases b2 <;> simp
          clear hp
          subst hn3
          refine inv_op (o := ⟨some 21, _, _, _, _, _⟩) rfl (fun K' hK' => ?_)
          have gI := HI.out.2.2.2
          obtain ⟨g, rfl, hg⟩ := gI.g2 e2
          subst e2
          go_simp
          obtain ⟨h0, h1, h5, gI⟩ := HI.out
          exact hK'.out _ _ ⟨⟨b0, b1, true, true, b4, b5, b6, s18, s19, _, _, s22, s23⟩, rfl, rfl, h0, h1, h5, gI.three⟩
        · have hn4 : b4 = false := by revert hp; cases b4 <;> simp
          have e1 : b1 = true := by revert hp; cases b1 <;> simp
          have e3 : b3 = true := by revert hp; cases b3 <;> simp
          clear hp
          obtain rfl := (HI.out.2.1) e1
          subst hn4
          refine inv_op (o := ⟨some 22, _, _, _, _, _⟩) rfl (fun K' hK' => ?_)
          have gI := HI.out.2.2.2
          have e2 := gI.o3 e3
          obtain ⟨g, rfl, hg⟩ := gI.g2 e2
          obtain ⟨gb, rfl, hgb⟩ := gI.g3 e3 rfl
          subst e1
          subst e2
          subst e3
          obtain ⟨xs, hxs, hel⟩ := gI.own rfl
          refine step_append_lies _ (by rfl) _ _ 22 (by rfl) (w.heap.size + 2) 35 j0 (.slice none 0 0) 1 24 Try.underlying22 hji hj0 hj1 hj2 rfl (by decide) (.slice ca i cc) i xs (by rfl) hxs ⟨gb, 0, none⟩ 1 1 [.slice (some ⟨g, 0, none⟩) 256 256] (by rfl) rfl (fun j u hu => World.news_of_block hgb j u hu) (by intro u hu; simp at hu; subst hu; rfl) (by decide) HCL.out.1 HCL.out.2 gI.size W.heap.size rfl ?_
          intro g9 cap w1 hown1 hgrow hat hlt
          obtain ⟨h0, h1, h5, gI⟩ := HI.out
          exact hK'.out _ _ ⟨⟨b0, true, true, true, true, b5, b6, s18, _, _, _, _, s23⟩, rfl, rfl, h0, h1, h5, (gI.four hxs hel hown1 hgrow)⟩
        · have hn5 : b5 = false := by revert hp; cases b5 <;> simp
          clear hp
          subst hn5
          refine inv_op (o := ⟨some 23, _, _, _, _, _⟩) rfl (fun K' hK' => ?_)
          go_simp
          obtain ⟨h0, h1, h5, gI⟩ := HI.out
          exact hK'.out _ _ ⟨⟨b0, b1, b2, b3, b4, true, b6, s18, s19, s20, s21, s22, _⟩, rfl, rfl, h0, h1, (fun _ => rfl), gI⟩
        · have hn6 : b6 = false := by revert hp; cases b6 <;> simp
          have e5 : b5 = true := by revert hp; cases b5 <;> simp
          have e4 : b4 = true := by revert hp; cases b4 <;> simp
          clear hp
          obtain rfl := (HI.out.2.2.1) e5
          subst hn6
          refine inv_op (o := ⟨none, _, _, _, _, _⟩) rfl (fun K' hK' => ?_)
          have gI := HI.out.2.2.2
          obtain ⟨⟨g9, c9, rfl⟩, hz9⟩ := gI.g4 e4
          subst e4
          obtain ⟨⟨hc1, hc2⟩, hz1, hz2⟩ := box_cells gI.now
          rw [if_neg (by decide)] at hc1
          have hlx := (Array.getElem?_eq_some_iff.1 gI.now).1
          go_simp
          obtain ⟨h0, h1, h5, gI⟩ := HI.out
          exact hK'.out _ _ ⟨⟨b0, b1, b2, b3, true, b5, true, s18, s19, s20, s21, _, _⟩, rfl, rfl, h0, h1, h5, (gI.six (by omega) (by omega))⟩
      case hdone =>
        rintro ⟨b0, b1, b2, b3, b4, b5, b6, s18, s19, s20, s21, s22, s23⟩ W hI hall
        dsimp only at hI hall ⊢
        have HI := Lib.hid hI
        clear hI
        obtain rfl : b6 = true := hall 6 (by decide)
        have gI := HI.out.2.2.2
        clear HI hall
        have hnow := gI.now
        obtain ⟨⟨g9, c9, rfl⟩, hz9⟩ := gI.g4 (gI.o6 rfl)
        have HN9 := Lib.hid (show NSt (w.heap.size + 2) (w.heap.size + 1) w.heap.size w (.slice (some ⟨g9, 0, none⟩) (i + 1) c9) (i + 1) false false false false false undef undef undef W from
          { out := gI.out, size := gI.size, low := gI.low, res := gI.res, now := gI.now, o4 := (fun e => by cases e), o3 := (fun e => by cases e), o43 := (fun e => by cases e), o6 := (fun e => by cases e), g2 := (fun e => by cases e), g3 := (fun e => by cases e), own := fun _ => hz9, g4 := (fun e => by cases e) })
        clear gI hnow hz9
        go_wp2
        go_roundw
        case rel => exact ⟨i + 1, by omega, by go_num, _, _, HN9.out⟩
        case measure => simp [intOf]; omega
    · obtain rfl : i = n := by omega
      have hnow := HST.out.now
      rw [if_neg (by decide)] at hnow
      obtain ⟨⟨hx1, hx2⟩, hx3, hx4⟩ := box_cells hnow
      obtain ⟨⟨hr1, hr2⟩, hr3, hr4⟩ := box_cells HST.out.res
      have hlt1 := (Array.getElem?_eq_some_iff.1 HST.out.res).1
      clear hnow
      go_wp2
      have hz9 := (HST.out.own rfl)
      have hs9 := ((hz9.box HST.out.res 0 (.slice ca i cc)).box (heap_setCell_same _ _ 0 _ _ _ HST.out.res) 1 (.slice none 0 0)).sects
      have hb9 := (HST.out.out.setCell (p := ⟨w.heap.size, 0, none⟩) (Nat.le_refl _) (.slice ca i cc)).setCell (p := ⟨w.heap.size, 1, none⟩) (Nat.le_refl _) (.slice none 0 0)
      exact bodyPost_ret (v := .tuple #[.agg #[.slice ca i cc, .slice none 0 0], .int .i64 0]) (by simp [results, Try.results23, go_sem, hr1, hr2]) rfl ⟨_, rfl, hs9, hb9⟩
  · rw [h1, h2]
    have HB0 := Lib.hid ((Below.refl w.heap.size w).alloc (Nat.le_refl _) (.cells #[.slice none 0 0, .slice none 0 0] 25))
    clear h1 h2
    by_cases h1 : z < 0
    · go_enter Try.func23, Try.ntmps23
      go_wp2
      refine bodyPost_ret (v := .tuple #[.agg #[.slice none 0 0, .slice none 0 0], .int .i64 2]) (by simp [results, Try.results23, go_sem]) rfl ⟨_, rfl, rows_nil _, ?_⟩
      exact HB0.out
    · have h3 : 256 < z := by omega
      go_enter Try.func23, Try.ntmps23
      go_wp2
      refine bodyPost_ret (v := .tuple #[.agg #[.slice none 0 0, .slice none 0 0], .int .i64 2]) (by simp [results, Try.results23, go_sem]) rfl ⟨_, rfl, rows_nil _, ?_⟩
      exact HB0.out
end Go.Proofs.Ytaamjpcpdlanhaa
