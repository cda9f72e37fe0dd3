/- What disk.Write answers; what was there stays. -/
import Derived.Test.YtaamjpcpdlanhaaDskV
import Derived.Test.YtaamjpcpdlanhaaInv
import Derived.Deep.AppendLies
namespace Go.Proofs.Ytaamjpcpdlanhaa
open Go.RowKit Go.Lib

theorem writeOf_zero {S : List (List UInt8)} {C : List (Int × List UInt8)} {z : Int} {l : List UInt8} (h : wFault S C z l.length = 0) : writeOf S C z l = C ++ [(z, l)] := by rw [writeOf, if_pos h]
theorem writeOf_other {S : List (List UInt8)} {C : List (Int × List UInt8)} {z : Int} {l : List UInt8} (h : wFault S C z l.length ≠ 0) : writeOf S C z l = C := by rw [writeOf, if_neg h]
/-- A disk of the call's own. -/
def OwnDisk (B : Nat) (W : World) (s c : Value) (S : List (List UInt8)) (C : List (Int × List UInt8)) : Prop := (∃ M, OwnSects B M W s S) ∧ OwnWrites B W c C
theorem OwnWrites.base {B B' : Nat} {W : World} {v : Value} {C : List (Int × List UInt8)} (h : OwnWrites B W v C) (hb : B' ≤ B) : OwnWrites B' W v C := by
  obtain ⟨X, h1, h2, h3⟩ := h
  exact ⟨X, h1, ownsRow_base h2 hb, fun i x hx => ⟨(h3 i x hx).1, ownsRow_base (h3 i x hx).2 hb⟩⟩
/-- Where the statement stands: what was there, the disk's parts, the box, what was made. -/
structure WSt (B M nb rb : Nat) (w : World) (sv cv : Value) (S : List (List UInt8)) (C : List (Int × List UInt8)) (z : Int) (l : List UInt8) (b1 b4 b6 b7 b9 : Bool) (s22 s24 s25 : Value) (W : World) : Prop where
  out : Below w.heap.size w W
  sect : ∃ M', OwnSects B M' W sv S
  size : M ≤ W.heap.size
  low : w.heap.size ≤ M
  res : W.heap[rb]? = some (.cells #[.slice none 0 0, .slice none 0 0] 25 (0, 0))
  now : W.heap[nb]? = some (.cells #[sv, if b9 = true then s25 else cv] 25 (0, 0))
  o1 : b7 = true → b1 = true
  o4 : b6 = true → b4 = true
  o6 : b7 = true → b6 = true
  o7 : b9 = true → b7 = true
  g4 : b4 = true → (∃ a n c, s22 = .slice a n c) ∧ W.ownsRow M 5 1 s22 l.length (byteCells l)
  g6 : b6 = true → b7 = false → ∃ gb, s24 = .slice (some ⟨gb, 0, none⟩) 1 1 ∧ W.heap[gb]? = some (.cells #[.int .i64 z, s22] 55 (0, 0))
  own : b7 = false → OwnWrites M W cv C
  g7 : b7 = true → (∃ a n c, s25 = .slice a n c) ∧ OwnWrites M W s25 (C ++ [(z, l)])
section
variable {B M nb rb : Nat} {w W : World} {sv cv : Value} {S : List (List UInt8)} {C : List (Int × List UInt8)} {z : Int} {l : List UInt8} {b1 b4 b6 b7 b9 : Bool} {s22 s24 s25 : Value}
theorem WSt.below {W1 : World} (h : WSt B M nb rb w sv cv S C z l b1 b4 b6 b7 b9 s22 s24 s25 W) (hb : Below W.heap.size W W1) : WSt B M nb rb w sv cv S C z l b1 b4 b6 b7 b9 s22 s24 s25 W1 where
  out := h.out.trans (hb.mono h.out.size)
  sect := by obtain ⟨M', h1⟩ := h.sect; exact ⟨M', h1.below hb⟩
  size := Nat.le_trans h.size hb.size
  low := h.low
  res := row_keep h.res hb
  now := row_keep h.now hb
  o1 := h.o1
  o4 := h.o4
  o6 := h.o6
  o7 := h.o7
  g4 := fun e => ⟨(h.g4 e).1, ownsRow_below (h.g4 e).2 hb⟩
  g6 := fun e e2 => by obtain ⟨gb, h1, h2⟩ := h.g6 e e2; exact ⟨gb, h1, row_keep h2 hb⟩
  own := fun e => (h.own e).below hb
  g7 := fun e => ⟨(h.g7 e).1, (h.g7 e).2.below hb⟩
theorem WSt.one (h : WSt B M nb rb w sv cv S C z l b1 b4 b6 b7 b9 s22 s24 s25 W) : WSt B M nb rb w sv cv S C z l true b4 b6 b7 b9 s22 s24 s25 W := { h with o1 := fun _ => rfl }
theorem WSt.four {W1 : World} {r : Value} (h : WSt B M nb rb w sv cv S C z l b1 false b6 b7 b9 s22 s24 s25 W) (hb : Below W.heap.size W W1) (hr : W1.ownsRow W.heap.size 5 1 r l.length (byteCells l)) : WSt B M nb rb w sv cv S C z l b1 true b6 b7 b9 r s24 s25 W1 :=
  have h1 := h.below hb
  { out := h1.out, sect := h1.sect, size := h1.size, low := h1.low, res := h1.res, now := h1.now, o1 := h1.o1, o4 := fun _ => rfl, o6 := h1.o6, o7 := h1.o7, own := h1.own, g7 := h1.g7
    g4 := fun _ => ⟨by obtain ⟨a, n, c, h2, _⟩ := (isArg_of_owns hr).shape3; exact ⟨a, n, c, h2⟩, ownsRow_base hr h.size⟩
    g6 := fun e _ => absurd (h.o4 e) (by decide) }
theorem WSt.six (h : WSt B M nb rb w sv cv S C z l b1 true false b7 b9 s22 s24 s25 W) : WSt B M nb rb w sv cv S C z l b1 true true b7 b9 s22 (.slice (some ⟨W.heap.size, 0, none⟩) 1 1) s25 (W.alloc (.cells #[.int .i64 z, s22] 55)) :=
  have h1 := h.below ((Below.refl _ _).alloc (Nat.le_refl _) (.cells #[.int .i64 z, s22] 55))
  { out := h1.out, sect := h1.sect, size := h1.size, low := h1.low, res := h1.res, now := h1.now, o1 := h1.o1, o4 := fun _ => rfl, o6 := fun _ => rfl, o7 := h1.o7, own := h1.own, g7 := h1.g7, g4 := h1.g4
    g6 := fun _ _ => ⟨_, rfl, heap_alloc_new W _⟩ }
/-- A block of another type stays where a slice of writes is appended to. -/
theorem far_grown {W W1 : World} {M n k : Nat} {cv : Value} {xs : List Value} {cur : Array Value} {t : TypeId} {f : Nat × Nat} (hcv : W.ownsRow M 55 2 cv n xs) (hg : W.grownBy W1 cv.ownBlock) (h : W.heap[k]? = some (.cells cur t f)) (ht : t ≠ 55) : W1.heap[k]? = some (.cells cur t f) := by
  refine (hg.block k (Array.getElem?_eq_some_iff.1 h).1 (fun e => ?_)).trans h
  rcases hcv.2 with ⟨rfl, _⟩ | ⟨g, cap, c2, rfl, _, hh, _⟩
  · cases e
  · have e : k = g := by simpa [Value.ownBlock] using e
    subst e
    rw [h] at hh
    injection hh with hh
    injection hh with _ hh _
    exact ht hh
theorem tne1 : (5 : Nat) ≠ 55 := by decide
theorem tne2 : (35 : Nat) ≠ 55 := by decide
theorem tne3 : (25 : Nat) ≠ 55 := by decide
theorem OwnSects.grown {B M' M n : Nat} {W W1 : World} {cv sv : Value} {xs : List Value} {S : List (List UInt8)} (h : OwnSects B M' W sv S) (hcv : W.ownsRow M 55 2 cv n xs) (hg : W.grownBy W1 cv.ownBlock) : OwnSects B M' W1 sv S := by
  obtain ⟨ys, h1, h2, h3, h4⟩ := h
  exact ⟨ys, owns_keep h1 fun k cur _ hc => far_grown hcv hg hc tne2, ⟨fun i V hi hV => owns_keep (h2.1 i V hi hV) fun k cur _ hc => far_grown hcv hg hc tne1, h2.2⟩, h3, h4⟩
theorem WSt.seven {W1 : World} {g cap : Nat} {X : List (Int × Value)} (h : WSt B M nb rb w sv cv S C z l b1 true true false b9 s22 s24 s25 W) (hb1 : b1 = true) (hX : X.length = C.length) (hown : W.ownsRow M 55 2 cv C.length (wcells X)) (hel : ∀ (i : Nat) (x : Int × Value), X[i]? = some x → x.1 = (C.getD i (0, [])).1 ∧ W.ownsRow M 5 1 x.2 (C.getD i (0, [])).2.length (byteCells (C.getD i (0, [])).2))
    (h1 : W1.ownsRow M 55 2 (.slice (some ⟨g, 0, none⟩) (C.length + 1) cap) (C.length + 1) (wcells X ++ [.int .i64 z, s22])) (hg : W.grownBy W1 cv.ownBlock) : WSt B M nb rb w sv cv S C z l b1 true true true b9 s22 s24 (.slice (some ⟨g, 0, none⟩) (C.length + 1) cap) W1 := by
  have hb9 : b9 = false := by
    cases b9 with
    | false => rfl
    | true => exact absurd (h.o7 rfl) (by decide)
  subst hb9
  have hM : ∀ k, cv.ownBlock = some k → M ≤ k := fun k hk => (hown.lt k hk).1
  refine { out := h.out.grown hg h.out.size (fun k hk => Nat.le_trans h.low (hM k hk)), sect := by obtain ⟨M', h2⟩ := h.sect; exact ⟨M', h2.grown hown hg⟩, size := Nat.le_trans h.size hg.size, low := h.low, res := far_grown hown hg h.res tne3, now := far_grown hown hg h.now tne3, o1 := fun _ => hb1, o4 := fun _ => rfl, o6 := fun _ => rfl, o7 := fun _ => rfl, g4 := fun e => ⟨(h.g4 e).1, owns_keep (h.g4 e).2 fun k cur _ hc => far_grown hown hg hc tne1⟩, g6 := (fun _ e => by cases e), own := (fun e => by cases e), g7 := fun _ => ⟨⟨_, _, _, rfl⟩, X ++ [(z, s22)], by simp [hX], ?_, fun i x hx => ?_⟩ }
  · rw [wcells_append, List.length_append]
    exact h1
  · by_cases hi : i < X.length
    · rw [List.getElem?_append_left hi] at hx
      obtain ⟨e1, e2⟩ := hel i x hx
      have e3 : (C ++ [(z, l)]).getD i (0, []) = C.getD i (0, []) := by simp only [List.getD_eq_getElem?_getD]; rw [List.getElem?_append_left (by omega)]
      rw [e3]
      exact ⟨e1, owns_keep e2 fun k cur _ hc => far_grown hown hg hc tne1⟩
    · have hi2 : i = X.length := by
        have := (List.getElem?_eq_some_iff.1 hx).1
        simp at this
        omega
      subst hi2
      rw [List.getElem?_append_right (Nat.le_refl _), Nat.sub_self] at hx
      cases hx
      have e3 : (C ++ [(z, l)]).getD X.length (0, []) = (z, l) := by rw [hX, List.getD_eq_getElem?_getD, List.getElem?_append_right (Nat.le_refl _), Nat.sub_self]; rfl
      rw [e3]
      exact ⟨rfl, owns_keep (h.g4 rfl).2 fun k cur _ hc => far_grown hown hg hc tne1⟩
theorem tne4 : (5 : Nat) ≠ 25 := by decide
theorem tne5 : (35 : Nat) ≠ 25 := by decide
theorem tne6 : (55 : Nat) ≠ 25 := by decide
theorem far_box {W : World} {nb k : Nat} {cs cur : Array Value} {t : TypeId} {f f2 : Nat × Nat} (hn : W.heap[nb]? = some (.cells cs 25 f)) (h : W.heap[k]? = some (.cells cur t f2)) (ht : t ≠ 25) (i : Nat) (x : Value) : (W.setCell ⟨nb, i, none⟩ x).heap[k]? = some (.cells cur t f2) :=
  row_far h _ _ (fun e => by
    have e : k = nb := e
    rw [e, hn] at h
    injection h with h
    injection h with _ h _
    exact ht h.symm)
theorem OwnSects.box {B M' nb : Nat} {W : World} {sv : Value} {cs : Array Value} {f : Nat × Nat} {S : List (List UInt8)} (h : OwnSects B M' W sv S) (hn : W.heap[nb]? = some (.cells cs 25 f)) (i : Nat) (x : Value) : OwnSects B M' (W.setCell ⟨nb, i, none⟩ x) sv S := by
  obtain ⟨ys, h1, h2, h3, h4⟩ := h
  exact ⟨ys, owns_keep h1 fun k cur _ hc => far_box hn hc tne5 i x, ⟨fun j V hi hV => owns_keep (h2.1 j V hi hV) fun k cur _ hc => far_box hn hc tne4 i x, h2.2⟩, h3, h4⟩
theorem OwnWrites.box {M nb : Nat} {W : World} {cv : Value} {cs : Array Value} {f : Nat × Nat} {C : List (Int × List UInt8)} (h : OwnWrites M W cv C) (hn : W.heap[nb]? = some (.cells cs 25 f)) (i : Nat) (x : Value) : OwnWrites M (W.setCell ⟨nb, i, none⟩ x) cv C := by
  obtain ⟨X, h1, h2, h3⟩ := h
  exact ⟨X, h1, owns_keep h2 fun k cur _ hc => far_box hn hc tne6 i x, fun j y hy => ⟨(h3 j y hy).1, owns_keep (h3 j y hy).2 fun k cur _ hc => far_box hn hc tne4 i x⟩⟩
theorem WSt.nine (h : WSt B M nb rb w sv cv S C z l b1 b4 b6 true false s22 s24 s25 W) (hnb : w.heap.size ≤ nb) (hne : rb ≠ nb) : WSt B M nb rb w sv cv S C z l b1 b4 b6 true true s22 s24 s25 (W.setCell ⟨nb, 1, none⟩ s25) where
  out := h.out.setCell hnb _
  sect := by obtain ⟨M', h1⟩ := h.sect; exact ⟨M', h1.box h.now 1 s25⟩
  size := by have := h.size; simp only [World.setCell, Array.size_modify]; exact this
  low := h.low
  res := row_far h.res _ _ hne
  now := heap_setCell_same W nb 1 _ _ s25 h.now
  o1 := h.o1
  o4 := h.o4
  o6 := h.o6
  o7 := fun _ => rfl
  g4 := fun e => ⟨(h.g4 e).1, owns_keep (h.g4 e).2 fun k cur _ hc => far_box h.now hc tne4 1 s25⟩
  g6 := (fun _ e => by cases e)
  own := (fun e => by cases e)
  g7 := fun e => ⟨(h.g7 e).1, (h.g7 e).2.box h.now 1 s25⟩
end
structure WriteX where
  b0 : Bool
  b1 : Bool
  b2 : Bool
  b3 : Bool
  b4 : Bool
  b5 : Bool
  b6 : Bool
  b7 : Bool
  b8 : Bool
  b9 : Bool
  s18 : Value
  s19 : Value
  s20 : Value
  s21 : Value
  s22 : Value
  s23 : Value
  s24 : Value
  s25 : Value
  s26 : Value
set_option maxHeartbeats 4000000 in
set_option maxRecDepth 100000 in
theorem write_own (s c : Value) (S : List (List UInt8)) (C : List (Int × List UInt8)) (w : World) (hd : IsDisk w s c S C) (hf : FewD S C) (z : Int) (V : Value) (l : List UInt8) (hV : IsArg w V l) (hl : l.length ≤ 100000) (F : Int) (hF : wFault S C z l.length = F) :
    Calls Try.prog 16 #[.agg #[s, c], .int .i64 z, V] w fun e w' => ∃ sv cv B, e = .returned (.tuple #[.agg #[sv, cv], .int .i64 F]) ∧ OwnDisk B w' sv cv S (writeOf S C z l) ∧ Below w.heap.size w w' := by
  have HD := Lib.hid hd
  have HV := Lib.hid hV
  obtain ⟨a, ca, a1, c1, rfl, rfl, _, _⟩ := hd.shape
  obtain ⟨va, vn, vc, rfl, hvn⟩ := hV.shape3
  obtain ⟨n, hSn⟩ : ∃ n, n = S.length := ⟨_, rfl⟩
  obtain ⟨m, hCm⟩ : ∃ m, m = C.length := ⟨_, rfl⟩
  rw [← hSn, ← hCm] at HD
  rw [← hSn, ← hCm]
  rw [← hvn] at hF
  have HCm := Lib.hid hCm
  have HB0 := Lib.hid (((Below.refl w.heap.size w).alloc (Nat.le_refl _) (.cells #[.slice a n ca, .slice a1 m c1] 25)).alloc (by simp) (.cells #[.slice none 0 0, .slice none 0 0] 25))
  have HFW := Lib.hid hf
  have HF := Lib.hid hF
  have HVN := Lib.hid hvn
  have HLL := Lib.hid (show l.length ≤ 140737488355328 by omega)
  by_cases h0 : F = 0
  · subst h0
    obtain ⟨hk, z0, z1, h256, hm⟩ := wFault_zero hF
    obtain ⟨G, hG⟩ : ∃ G, G = writeOf S C z l := ⟨_, rfl⟩
    rw [← hG]
    rw [writeOf_zero (by rw [← hvn]; exact hF)] at hG
    rw [← hCm] at hm
    have HG := Lib.hid hG
    have HZ := Lib.hid (show 0 ≤ z ∧ z < (S.length : Int) from ⟨z0, z1⟩)
    clear hd hf hF hSn hCm hk z0 z1 h256 hG hV hvn hl
    go_enter Try.func16, Try.ntmps16
    go_wp2_with fail
    refine (writeFault_any _ _ _ _ _ (HD.out.below HB0.out) _ _ _ _ _ HF.out).mono ?_
    rintro e w1 ⟨rfl, hb⟩
    have HB1 := Lib.hid (HB0.out.trans (hb.mono (by simp; omega)))
    obtain ⟨hrow0, hrow1, hlt1⟩ := boxes_rows hb
    obtain ⟨⟨hx1, hx2⟩, _, _⟩ := box_cells hrow0
    have HRW := Lib.hid hrow1
    clear hrow0 hrow1 hb
    go_wp2_with fail
    refine (same_any _ _ S C _ (HD.out.below HB1.out) HFW.out).mono ?_
    rintro e w2 ⟨sv, cv, M, rfl, hM, ho, hw, hb⟩
    obtain ⟨sa, sn, sc, rfl⟩ := ho.sects.form
    obtain ⟨da, dn, dc, rfl⟩ := hw.writes.form
    have HB2 := Lib.hid (HB1.out.trans (hb.mono HB1.out.size))
    have HRW2 := Lib.hid (row_keep HRW.out hb)
    have hlt2 : w.heap.size + 1 < w2.heap.size := Nat.lt_of_lt_of_le hlt1 hb.size
    have HO := Lib.hid ho
    have HW := Lib.hid hw
    have HM := Lib.hid (show w.heap.size + 1 < M from Nat.lt_of_lt_of_le hlt1 hM)
    have HMB := Lib.hid hM
    have HBS := Lib.hid hb.size
    clear ho hw hb hx1 hx2 hM
    go_wp2_with fail
    obtain ⟨nb, hnb⟩ : ∃ x, x = w2.heap.size := ⟨_, rfl⟩
    obtain ⟨j0, ji, jz0, jz1, jz2⟩ := info_parts infoW
    have bN := (Below.refl w2.heap.size w2).alloc (Nat.le_refl _) (.cells #[.slice sa sn sc, .slice da dn dc] 25)
    have hst : WSt w1.heap.size w1.heap.size nb (w.heap.size + 1) w (.slice sa sn sc) (.slice da dn dc) S C z l false false false false false undef undef undef (w2.alloc (.cells #[.slice sa sn sc, .slice da dn dc] 25)) :=
      { out := HB2.out.trans (bN.mono HB2.out.size), sect := ⟨_, HO.out.below bN⟩, size := Nat.le_trans HBS.out bN.size, low := by omega, res := row_keep HRW2.out bN, now := by rw [hnb]; exact heap_alloc_new w2 _
        o1 := (fun e => by cases e), o4 := (fun e => by cases e), o6 := (fun e => by cases e), o7 := (fun e => by cases e), g4 := (fun e => by cases e), g6 := (fun e => by cases e), own := fun _ => (HW.out.base HMB.out).below bN, g7 := (fun e => by cases e) }
    obtain ⟨B, hB⟩ : ∃ B, B = w1.heap.size := ⟨_, rfl⟩
    rw [← hB] at hst
    have hbase : w.heap.size + 1 < B := by omega
    have HST := Lib.hid (hst.below (Below.refl _ _).drew)
    have HCL := Lib.hid (show C.length + 1 ≤ maxLen ∧ (C.length + 1) * 32 ≤ 140737488355328 by rw [← HCm.out]; unfold maxLen; omega)
    have hnb0 : w.heap.size ≤ nb := by omega
    have hnb1 : w.heap.size + 1 ≠ nb := by omega
    rw [← hnb]
    clear hst hnb hB bN hlt1
    refine wp_region_rec (X := WriteX) (by kernel_rfl) (by kernel_rfl) (fun x => #[x.b0, x.b1, x.b2, x.b3, x.b4, x.b5, x.b6, x.b7, x.b8, x.b9]) (fun x => { tmps := #[Value.agg #[Value.slice a n ca, Value.slice a1 m c1], Value.int IntKind.i64 z, Value.slice va vn vc, Value.pointer (some ⟨w.heap.size, 0, none⟩), undef, undef, Value.pointer (some ⟨w.heap.size + 1, 0, none⟩), Value.int IntKind.i64 0, Value.int IntKind.i64 0, Value.pointer (some ⟨nb, 0, none⟩), Value.agg #[Value.slice a n ca, Value.slice a1 m c1], Value.int IntKind.i64 z, Value.slice va vn vc, Value.int IntKind.i64 0, Value.agg #[Value.slice a n ca, Value.slice a1 m c1], Value.agg #[Value.slice sa sn sc, Value.slice da dn dc], Value.int IntKind.i64 0, Value.bool true, x.s18, x.s19, x.s20, x.s21, x.s22, x.s23, x.s24, x.s25, x.s26, undef, undef], defers := [] }) (fun x W => (x.b0 = true → x.s18 = .pointer (some ⟨nb, 1, none⟩)) ∧ (x.b1 = true → x.s19 = .slice da dn dc) ∧ (x.b2 = true → x.s20 = .int .i64 z) ∧ (x.b3 = true → x.s21 = .slice va vn vc) ∧ (x.b5 = true → x.s23 = .agg #[.int .i64 z, x.s22]) ∧ (x.b8 = true → x.s26 = .pointer (some ⟨nb, 1, none⟩)) ∧ (WSt B B nb (w.heap.size + 1) w (.slice sa sn sc) (.slice da dn dc) S C z l x.b1 x.b4 x.b6 x.b7 x.b9 x.s22 x.s24 x.s25 W) ∧ (x.b5 = true → x.b4 = true)) ⟨false, false, false, false, false, false, false, false, false, false, undef, undef, undef, undef, undef, undef, undef, undef, undef⟩ rfl rfl ⟨(fun h => by cases h), (fun h => by cases h), (fun h => by cases h), (fun h => by cases h), (fun h => by cases h), (fun h => by cases h), HST.out, (fun h => by cases h)⟩ (fun _ => rfl) ?hstep ?hdone
    case hstep =>
      rintro ⟨b0, b1, b2, b3, b4, b5, b6, b7, b8, b9, s18, s19, s20, s21, s22, s23, s24, s25, s26⟩ W hI i hi
      dsimp only at hI hi ⊢
      have HI := Lib.hid hI
      clear hI
      rw [Region.ready, List.mem_filter, List.mem_range] at hi
      obtain ⟨hlt, hp⟩ := hi
      have hi7 : i = 0 ∨ i = 1 ∨ i = 2 ∨ i = 3 ∨ i = 4 ∨ i = 5 ∨ i = 6 ∨ i = 7 ∨ i = 8 ∨ i = 9 := by simp at hlt; omega
      clear hlt
      rcases hi7 with rfl | rfl | rfl | rfl | rfl | rfl | rfl | rfl | rfl | rfl
      all_goals simp [Region.binds] at hp
      · have hn0 : b0 = false := by revert hp; cases b0 <;> simp
        clear hp
        subst hn0
        refine inv_op (o := ⟨some 18, _, _, _, _, _⟩) rfl (fun K' hK' => ?_)
        go_simp
        obtain ⟨h0, h1, h2, h3, h5, h8, gI, o54⟩ := HI.out
        exact hK'.out _ _ ⟨⟨true, b1, b2, b3, b4, b5, b6, b7, b8, b9, _, s19, s20, s21, s22, s23, s24, s25, s26⟩, rfl, rfl, (fun _ => rfl), h1, h2, h3, h5, h8, gI, o54⟩
      · have hn1 : b1 = false := by revert hp; cases b1 <;> simp
        have e0 : b0 = true := by revert hp; cases b0 <;> simp
        clear hp
        obtain rfl := (HI.out.1) e0
        subst hn1
        refine inv_op (o := ⟨some 19, _, _, _, _, _⟩) rfl (fun K' hK' => ?_)
        have gI := HI.out.2.2.2.2.2.2.1
        have b7f : b7 = false := by cases b7 with | false => rfl | true => exact absurd (gI.o1 rfl) (by decide)
        subst b7f
        have b9f : b9 = false := by cases b9 with | false => rfl | true => exact absurd (gI.o7 rfl) (by decide)
        subst b9f
        obtain ⟨hc1, hc2⟩ := (box_cells gI.now).1
        rw [if_neg (by decide)] at hc2
        go_simp
        obtain ⟨h0, h1, h2, h3, h5, h8, gI, o54⟩ := HI.out
        exact hK'.out _ _ ⟨⟨b0, true, b2, b3, b4, b5, b6, false, b8, false, _, _, s20, s21, s22, s23, s24, s25, s26⟩, rfl, rfl, h0, (fun _ => rfl), h2, h3, h5, h8, gI.one, o54⟩
      · have hn2 : b2 = false := by revert hp; cases b2 <;> simp
        clear hp
        subst hn2
        refine inv_op (o := ⟨some 20, _, _, _, _, _⟩) rfl (fun K' hK' => ?_)
        go_simp
        obtain ⟨h0, h1, h2, h3, h5, h8, gI, o54⟩ := HI.out
        exact hK'.out _ _ ⟨⟨b0, b1, true, b3, b4, b5, b6, b7, b8, b9, s18, s19, _, s21, s22, s23, s24, s25, s26⟩, rfl, rfl, h0, h1, (fun _ => rfl), h3, h5, h8, gI, o54⟩
      · have hn3 : b3 = false := by revert hp; cases b3 <;> simp
        clear hp
        subst hn3
        refine inv_op (o := ⟨some 21, _, _, _, _, _⟩) rfl (fun K' hK' => ?_)
        go_simp
        obtain ⟨h0, h1, h2, h3, h5, h8, gI, o54⟩ := HI.out
        exact hK'.out _ _ ⟨⟨b0, b1, b2, true, b4, b5, b6, b7, b8, b9, s18, s19, s20, _, s22, s23, s24, s25, s26⟩, rfl, rfl, h0, h1, h2, (fun _ => rfl), h5, h8, gI, o54⟩
      · have hn4 : b4 = false := by revert hp; cases b4 <;> simp
        have e3 : b3 = true := by revert hp; cases b3 <;> simp
        clear hp
        obtain rfl := (HI.out.2.2.2.1) e3
        subst hn4
        refine inv_op (o := ⟨some 22, _, _, _, _, _⟩) rfl (fun K' hK' => ?_)
        have gI := HI.out.2.2.2.2.2.2.1
        go_simp
        refine (clone_any _ _ _ (HV.out.below gI.out) HLL.out).mono ?_
        rintro e w1 ⟨r, rfl, hr, bn⟩
        obtain ⟨h0, h1, h2, h3, h5, h8, gI, o54⟩ := HI.out
        exact hK'.out _ _ ⟨⟨b0, b1, b2, b3, true, b5, b6, b7, b8, b9, s18, s19, s20, _, _, s23, s24, s25, s26⟩, rfl, rfl, h0, h1, h2, h3, (fun e5 => absurd (o54 e5) (by decide)), h8, (gI.four bn hr), (fun _ => rfl)⟩
      · have hn5 : b5 = false := by revert hp; cases b5 <;> simp
        have e2 : b2 = true := by revert hp; cases b2 <;> simp
        have e4 : b4 = true := by revert hp; cases b4 <;> simp
        clear hp
        obtain rfl := (HI.out.2.2.1) e2
        subst hn5
        refine inv_op (o := ⟨some 23, _, _, _, _, _⟩) rfl (fun K' hK' => ?_)
        have gI := HI.out.2.2.2.2.2.2.1
        obtain ⟨ra, rn, rc, rfl⟩ := (gI.g4 e4).1
        go_simp
        obtain ⟨h0, h1, h2, h3, h5, h8, gI, o54⟩ := HI.out
        exact hK'.out _ _ ⟨⟨b0, b1, b2, b3, b4, true, b6, b7, b8, b9, s18, s19, _, s21, _, _, s24, s25, s26⟩, rfl, rfl, h0, h1, h2, h3, (fun _ => rfl), h8, gI, (fun _ => e4)⟩
      · have hn6 : b6 = false := by revert hp; cases b6 <;> simp
        have e5 : b5 = true := by revert hp; cases b5 <;> simp
        clear hp
        obtain rfl := (HI.out.2.2.2.2.1) e5
        subst hn6
        refine inv_op (o := ⟨some 24, _, _, _, _, _⟩) rfl (fun K' hK' => ?_)
        have gI := HI.out.2.2.2.2.2.2.1
        have o54 := HI.out.2.2.2.2.2.2.2
        have e4 := o54 e5
        obtain ⟨ra, rn, rc, rfl⟩ := (gI.g4 e4).1
        subst e4
        go_simp
        obtain ⟨h0, h1, h2, h3, h5, h8, gI, o54⟩ := HI.out
        exact hK'.out _ _ ⟨⟨b0, b1, b2, b3, true, b5, true, b7, b8, b9, s18, s19, s20, s21, _, _, _, s25, s26⟩, rfl, rfl, h0, h1, h2, h3, h5, h8, gI.six, (fun _ => rfl)⟩
      · have hn7 : b7 = false := by revert hp; cases b7 <;> simp
        have e1 : b1 = true := by revert hp; cases b1 <;> simp
        have e6 : b6 = true := by revert hp; cases b6 <;> simp
        clear hp
        obtain rfl := (HI.out.2.1) e1
        subst hn7
        refine inv_op (o := ⟨some 25, _, _, _, _, _⟩) rfl (fun K' hK' => ?_)
        have gI := HI.out.2.2.2.2.2.2.1
        have e4 := gI.o4 e6
        obtain ⟨gb, rfl, hgb⟩ := gI.g6 e6 rfl
        subst e1
        subst e4
        subst e6
        obtain ⟨X, hXl, hxs, hel⟩ := gI.own rfl
        refine step_append_lies _ (by rfl) _ _ 23 (by rfl) B 55 j0 (.agg #[.int .i64 0, .slice none 0 0]) 2 32 Try.underlying23 ji jz0 jz1 jz2 rfl (by decide) (.slice da dn dc) C.length (wcells X) (by rfl) hxs ⟨gb, 0, none⟩ 1 1 [.int .i64 z, s22] (by rfl) rfl (fun j u hu => World.news_of_block hgb j u hu) (by intro u hu; obtain ⟨ra, rn, rc, rfl⟩ := (gI.g4 rfl).1; simp at hu; rcases hu with rfl | rfl <;> rfl) (by decide) HCL.out.1 HCL.out.2 gI.size W.heap.size rfl ?_
        intro g cap w1 hown1 hgrow hat hlt
        obtain ⟨h0, h1, h2, h3, h5, h8, gI, o54⟩ := HI.out
        exact hK'.out _ _ ⟨⟨b0, true, b2, b3, true, b5, true, true, b8, b9, s18, _, s20, s21, s22, s23, _, _, s26⟩, rfl, rfl, h0, h1, h2, h3, h5, h8, (gI.seven rfl hXl hxs hel hown1 hgrow), (fun _ => rfl)⟩
      · have hn8 : b8 = false := by revert hp; cases b8 <;> simp
        clear hp
        subst hn8
        refine inv_op (o := ⟨some 26, _, _, _, _, _⟩) rfl (fun K' hK' => ?_)
        go_simp
        obtain ⟨h0, h1, h2, h3, h5, h8, gI, o54⟩ := HI.out
        exact hK'.out _ _ ⟨⟨b0, b1, b2, b3, b4, b5, b6, b7, true, b9, s18, s19, s20, s21, s22, s23, s24, s25, _⟩, rfl, rfl, h0, h1, h2, h3, h5, (fun _ => rfl), gI, o54⟩
      · have hn9 : b9 = false := by revert hp; cases b9 <;> simp
        have e8 : b8 = true := by revert hp; cases b8 <;> simp
        have e7 : b7 = true := by revert hp; cases b7 <;> simp
        clear hp
        obtain rfl := (HI.out.2.2.2.2.2.1) e8
        subst hn9
        refine inv_op (o := ⟨none, _, _, _, _, _⟩) rfl (fun K' hK' => ?_)
        have gI := HI.out.2.2.2.2.2.2.1
        obtain ⟨ra, rn, rc, rfl⟩ := (gI.g7 e7).1
        subst e7
        obtain ⟨⟨hc1, hc2⟩, hz1, hz2⟩ := box_cells gI.now
        rw [if_neg (by decide)] at hc2
        go_simp
        obtain ⟨h0, h1, h2, h3, h5, h8, gI, o54⟩ := HI.out
        exact hK'.out _ _ ⟨⟨b0, b1, b2, b3, b4, b5, b6, true, b8, true, s18, s19, s20, s21, s22, s23, s24, _, _⟩, rfl, rfl, h0, h1, h2, h3, h5, h8, (gI.nine hnb0 hnb1), o54⟩
    case hdone =>
      rintro ⟨b0, b1, b2, b3, b4, b5, b6, b7, b8, b9, s18, s19, s20, s21, s22, s23, s24, s25, s26⟩ W hI hall
      dsimp only at hI hall ⊢
      have HI := Lib.hid hI
      clear hI
      obtain rfl : b9 = true := hall 9 (by decide)
      obtain rfl : b7 = true := hall 7 (by decide)
      have gI := HI.out.2.2.2.2.2.2.1
      clear HI hall
      obtain ⟨⟨ea, en, ec, rfl⟩, how⟩ := gI.g7 rfl
      have hnow := gI.now
      rw [if_pos rfl] at hnow
      obtain ⟨⟨hn1, hn2⟩, _, _⟩ := box_cells hnow
      obtain ⟨⟨hr1, hr2⟩, hz1, hz2⟩ := box_cells gI.res
      obtain ⟨M', hsect⟩ := gI.sect
      have hlt9 : w.heap.size + 1 < W.heap.size := by have := gI.size; omega
      have GI := Lib.hid gI
      have HOW := Lib.hid how
      have HSE := Lib.hid hsect
      clear gI how hsect hnow
      go_wp2
      have hrow9 := box_put (u := .slice sa sn sc) (v := .slice ea en ec) GI.out.res
      have hs9 := (HSE.out.set ⟨w.heap.size + 1, 0, none⟩ (.slice sa sn sc) hbase).set ⟨w.heap.size + 1, 1, none⟩ (.slice ea en ec) hbase
      have hw9 := (HOW.out.set ⟨w.heap.size + 1, 0, none⟩ (.slice sa sn sc) hbase).set ⟨w.heap.size + 1, 1, none⟩ (.slice ea en ec) hbase
      have hb9 := (GI.out.out.setCell (p := ⟨w.heap.size + 1, 0, none⟩) (by show w.heap.size ≤ w.heap.size + 1; omega) (.slice sa sn sc)).setCell (p := ⟨w.heap.size + 1, 1, none⟩) (by show w.heap.size ≤ w.heap.size + 1; omega) (.slice ea en ec)
      generalize World.setCell (World.setCell W _ _) _ _ = W9 at hrow9 hs9 hw9 hb9 ⊢
      obtain ⟨⟨hq1, hq2⟩, _, _⟩ := box_cells hrow9
      rw [HG.out]
      exact bodyPost_ret (v := .tuple #[.agg #[.slice sa sn sc, .slice ea en ec], .int .i64 0]) (by simp [results, Try.results16, go_sem, hq1, hq2]) rfl ⟨_, _, _, rfl, ⟨⟨_, hs9⟩, hw9⟩, hb9⟩
  · have hG := writeOf_other (S := S) (C := C) (z := z) (l := l) (by rw [← hvn, hF]; exact h0)
    rw [hG]
    clear hd hf hF hSn hCm hG hV hvn hl
    go_enter Try.func16, Try.ntmps16
    go_wp2_with fail
    refine (writeFault_any _ _ _ _ _ (HD.out.below HB0.out) _ _ _ _ _ HF.out).mono ?_
    rintro e w1 ⟨rfl, hb⟩
    have HB1 := Lib.hid (HB0.out.trans (hb.mono (by simp; omega)))
    obtain ⟨hrow0, hrow1, hlt1⟩ := boxes_rows hb
    obtain ⟨⟨hx1, hx2⟩, _, _⟩ := box_cells hrow0
    have HRW := Lib.hid hrow1
    clear hrow0 hrow1 hb
    go_wp2_with fail
    refine (same_any _ _ S C _ (HD.out.below HB1.out) HFW.out).mono ?_
    rintro e w2 ⟨sv, cv, M, rfl, hM, ho, hw, hb⟩
    obtain ⟨sa, sn, sc, rfl⟩ := ho.sects.form
    obtain ⟨da, dn, dc, rfl⟩ := hw.writes.form
    have HB2 := Lib.hid (HB1.out.trans (hb.mono HB1.out.size))
    have hrow := row_keep HRW.out hb
    have HRW2 := Lib.hid hrow
    obtain ⟨⟨hr1, hr2⟩, hz1, hz2⟩ := box_cells hrow
    have hlt2 : w.heap.size + 1 < w2.heap.size := Nat.lt_of_lt_of_le hlt1 hb.size
    have HO := Lib.hid ho
    have HW := Lib.hid hw
    have HM := Lib.hid (show w.heap.size + 1 < M from Nat.lt_of_lt_of_le hlt1 hM)
    have HMB := Lib.hid hM
    clear ho hw hb hx1 hx2 hM hrow
    go_wp2
    have hrow9 := row_keep (box_put (u := .slice sa sn sc) (v := .slice da dn dc) HRW2.out) ((Below.refl _ _).alloc (Nat.le_refl _) (.cells #[.slice sa sn sc, .slice da dn dc] 25))
    have hs9 := ((HO.out.set ⟨w.heap.size + 1, 0, none⟩ (.slice sa sn sc) hlt1).set ⟨w.heap.size + 1, 1, none⟩ (.slice da dn dc) hlt1).below ((Below.refl _ _).alloc (Nat.le_refl _) (.cells #[.slice sa sn sc, .slice da dn dc] 25))
    have hw9 := ((HW.out.set ⟨w.heap.size + 1, 0, none⟩ (.slice sa sn sc) HM.out).set ⟨w.heap.size + 1, 1, none⟩ (.slice da dn dc) HM.out).below ((Below.refl _ _).alloc (Nat.le_refl _) (.cells #[.slice sa sn sc, .slice da dn dc] 25))
    have hb9 := ((HB2.out.setCell (p := ⟨w.heap.size + 1, 0, none⟩) (by show w.heap.size ≤ w.heap.size + 1; omega) (.slice sa sn sc)).setCell (p := ⟨w.heap.size + 1, 1, none⟩) (by show w.heap.size ≤ w.heap.size + 1; omega) (.slice da dn dc))
    have hb9 := hb9.alloc hb9.size (.cells #[.slice sa sn sc, .slice da dn dc] 25)
    generalize World.alloc (World.setCell (World.setCell w2 _ _) _ _) _ = W9 at hrow9 hs9 hw9 hb9 ⊢
    obtain ⟨⟨hq1, hq2⟩, _, _⟩ := box_cells hrow9
    exact bodyPost_ret (v := .tuple #[.agg #[.slice sa sn sc, .slice da dn dc], .int .i64 F]) (by simp [results, Try.results16, go_sem, hq1, hq2]) rfl ⟨_, _, w1.heap.size, rfl, ⟨⟨_, hs9⟩, (hw9.base HMB.out)⟩, hb9⟩
theorem OwnDisk.disk {B : Nat} {W : World} {s c : Value} {S : List (List UInt8)} {C : List (Int × List UInt8)} (h : OwnDisk B W s c S C) : IsDisk W s c S C := by
  obtain ⟨⟨M, h1⟩, h2⟩ := h
  exact ⟨h1.sects, h2.writes⟩
theorem OwnDisk.below {B : Nat} {W W' : World} {s c : Value} {S : List (List UInt8)} {C : List (Int × List UInt8)} (h : OwnDisk B W s c S C) (hb : Below W.heap.size W W') : OwnDisk B W' s c S C := by
  obtain ⟨⟨M, h1⟩, h2⟩ := h
  exact ⟨⟨M, h1.below hb⟩, h2.below hb⟩
theorem OwnDisk.box {B nb : Nat} {W : World} {s c : Value} {cs : Array Value} {f : Nat × Nat} {S : List (List UInt8)} {C : List (Int × List UInt8)} (h : OwnDisk B W s c S C) (hn : W.heap[nb]? = some (.cells cs 25 f)) (i : Nat) (x : Value) : OwnDisk B (W.setCell ⟨nb, i, none⟩ x) s c S C := by
  obtain ⟨⟨M, h1⟩, h2⟩ := h
  exact ⟨⟨M, h1.box hn i x⟩, h2.box hn i x⟩
theorem write_any (s c : Value) (S : List (List UInt8)) (C : List (Int × List UInt8)) (w : World) (hd : IsDisk w s c S C) (hf : FewD S C) (z : Int) (V : Value) (l : List UInt8) (hV : IsArg w V l) (hl : l.length ≤ 100000) (F : Int) (hF : wFault S C z l.length = F) :
    Calls Try.prog 16 #[.agg #[s, c], .int .i64 z, V] w fun e w' => ∃ sv cv, e = .returned (.tuple #[.agg #[sv, cv], .int .i64 F]) ∧ IsDisk w' sv cv S (writeOf S C z l) ∧ Below w.heap.size w w' :=
  (write_own s c S C w hd hf z V l hV hl F hF).mono fun _ _ ⟨sv, cv, _, h1, h2, h3⟩ => ⟨sv, cv, h1, h2.disk, h3⟩
end Go.Proofs.Ytaamjpcpdlanhaa
