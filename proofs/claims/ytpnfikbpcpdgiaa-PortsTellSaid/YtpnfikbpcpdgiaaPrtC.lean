/- What ports.changed answers, by each of the three functions that change bits; Raise, Done, Hear. -/
import Derived.Test.YtpnfikbpcpdgiaaPrtB
namespace Go.Proofs.Ytpnfikbpcpdgiaa
open Go.RowKit Go.Lib

theorem Gave.mk {w w' : World} {L M T : Nat} {l : List UInt8} {F : Int} {e : Ending} {r : Value} (he : e = .returned (.tuple #[.agg #[.int .u32 (L : Nat), .int .u32 (M : Nat), .int .u64 (T : Nat), r], .int .i64 F])) (h : w'.ownsRow w.heap.size 5 1 r l.length (byteCells l)) (hb : Below w.heap.size w w') : Gave w L M T l F e w' := ⟨r, he, h, hb⟩
theorem alloc_owns {X : World} {B : Nat} {v : Value} {n : Nat} {xs : List Value} (h : X.ownsRow B 5 1 v n xs) (o : Obj) : (X.alloc o).ownsRow B 5 1 v n xs := ownsRow_below h ((Below.refl _ _).alloc (Nat.le_refl _) _)

set_option maxHeartbeats 4000000 in
set_option maxRecDepth 100000 in
theorem changed_raise (L M T : Nat) (hL : L < 4294967296) (v : Value) (l : List UInt8) (w : World) (hv : IsArg w v l) (hl : l.length ≤ 140737488355328) (z : Int) (F : Int) (hF : lineP T l.length z = F) (m : Nat) (hm : raiseP L T l.length z = m) :
    Calls Try.prog 26 #[.agg #[.int .u32 (L : Nat), .int .u32 (M : Nat), .int .u64 (T : Nat), v], .int .i64 z, .func (.func 28) #[] #[]] w (Gave w m M T l F) := by
  have HV := Lib.hid hv
  have HL := Lib.hid hl
  have HB := Lib.hid (((Below.refl w.heap.size w).alloc (Nat.le_refl _) (.cells #[.int .u32 (L : Nat), .int .u32 (M : Nat), .int .u64 (T : Nat), v] 26)).alloc (by simp) (.cells #[.int .u32 0, .int .u32 0, .int .u64 0, .slice none 0 0] 26))
  obtain ⟨a, n, c, rfl, hn⟩ := hv.shape3
  have HN := Lib.hid (show n ≤ maxLen by rw [hn]; exact arg_len hv)
  have HNL := Lib.hid hn
  rw [← hn] at hF hm
  have HF := Lib.hid hF
  by_cases h0 : F = 0
  · subst h0
    obtain ⟨k, rfl, hk⟩ : ∃ k : Nat, z = (k : Int) ∧ k ≤ 31 := by
      rcases line_cases T n z with ⟨h, _⟩ | ⟨h, _⟩ | ⟨_, _, _, h1, h2⟩
      · rw [hF] at h; cases h
      · rw [hF] at h; cases h
      · obtain ⟨k, rfl⟩ := Int.eq_ofNat_of_zero_le h1
        exact ⟨k, rfl, by omega⟩
    rw [raiseP, if_pos hF, Int.toNat_natCast] at hm
    have HM := Lib.hid hm
    obtain ⟨b, hbk⟩ : ∃ b, b = 2 ^ k := ⟨_, rfl⟩
    have HBK := Lib.hid hbk
    clear hv hn hF hm hl hbk
    go_enter Try.func26, Try.ntmps26
    go_wp2_with fail
    refine (line_any _ _ _ _ _ _ HN.out _ _ HF.out _).mono ?_
    rintro e w1 ⟨rfl, hb⟩
    have HB1 := Lib.hid (HB.out.trans (hb.mono (by simp; omega)))
    obtain ⟨hrow, hrow1, hlt⟩ := boxes_rows hb
    have HW1 := Lib.hid hrow1
    obtain ⟨c0, c1, c2, c3⟩ := four hrow
    clear hb hrow hrow1
    go_wp2_with fail
    refine (same_any _ _ _ _ _ _ (HV.out.below HB1.out) HL.out).mono ?_
    rintro e w2 ⟨r, rfl, hr, hb⟩
    have HR := Lib.hid (ownsRow_base (base' := w.heap.size) hr HB1.out.size)
    obtain ⟨ra, rn, rc, rfl, hrn⟩ := (isArg_of_owns hr).shape3
    have HW2 := Lib.hid (row_keep HW1.out hb)
    have HB2 := Lib.hid (HB1.out.trans (hb.mono HB1.out.size))
    have hlt2 : w.heap.size + 1 < w2.heap.size := Nat.lt_of_lt_of_le hlt hb.size
    clear hr hb hrn c0 c1 c2 c3
    go_wp2_with fail
    refine (bitOf_any k hk b HBK.out _).mono ?_
    rintro e w0 ⟨rfl, rfl⟩
    go_wp2_with fail
    have hnew := heap_alloc_new w2 (.cells #[.int .u32 (L : Nat), .int .u32 (M : Nat), .int .u64 (T : Nat), .slice ra rn rc] 26 (0, 0))
    refine (raiseBit L M T _ k hL hk m HM.out b HBK.out _ _ hnew).mono ?_
    rintro e w3 ⟨rfl, hrow3, hb⟩
    have HW3 := Lib.hid hrow3
    have hb0 : Below w2.heap.size w2 w3 := ((Below.refl w2.heap.size w2).alloc (Nat.le_refl _) _).trans hb
    have HB3 := Lib.hid (HB2.out.trans (hb0.mono HB2.out.size))
    have HR3 := Lib.hid (ownsRow_below HR.out hb0)
    have HX3 := Lib.hid (row_keep HW2.out hb0)
    obtain ⟨c0, c1, c2, c3⟩ := four hrow3
    obtain ⟨d0, d1, d2, d3⟩ := four HX3.out
    obtain ⟨g0, g1, g2, g3⟩ := free4 HX3.out
    have hlt3 : w.heap.size + 1 < w3.heap.size := Nat.lt_of_lt_of_le hlt2 hb0.size
    clear hb hb0 hrow3 hnew
    go_wp2
    refine bodyPost_ret (v := .tuple #[.agg #[.int .u32 (m : Nat), .int .u32 (M : Nat), .int .u64 (T : Nat), .slice ra rn rc], .int .i64 0]) (by simp [results, Try.results26, go_sem, d0, d1, d2, d3]) rfl (Gave.mk rfl (put4_owns HR3.out HX3.out) (put4_below HB3.out (by simp)))
  · obtain rfl : m = L := by rw [← hm, raiseP, if_neg (by rw [hF]; exact h0)]
    clear hv hn hm hl hF
    go_enter Try.func26, Try.ntmps26
    go_wp2_with fail
    refine (line_any _ _ _ _ _ _ HN.out _ _ HF.out _).mono ?_
    rintro e w1 ⟨rfl, hb⟩
    have HB1 := Lib.hid (HB.out.trans (hb.mono (by simp; omega)))
    obtain ⟨hrow, hrow1, hlt⟩ := boxes_rows hb
    have HW1 := Lib.hid hrow1
    obtain ⟨c0, c1, c2, c3⟩ := four hrow
    clear hb hrow hrow1
    go_wp2_with fail
    refine (same_any _ _ _ _ _ _ (HV.out.below HB1.out) HL.out).mono ?_
    rintro e w2 ⟨r, rfl, hr, hb⟩
    have HR := Lib.hid (ownsRow_base (base' := w.heap.size) hr HB1.out.size)
    obtain ⟨ra, rn, rc, rfl, hrn⟩ := (isArg_of_owns hr).shape3
    have HW2 := Lib.hid (row_keep HW1.out hb)
    have HB2 := Lib.hid (HB1.out.trans (hb.mono HB1.out.size))
    have hlt2 : w.heap.size + 1 < w2.heap.size := Nat.lt_of_lt_of_le hlt hb.size
    clear hr hb hrn c0 c1 c2 c3
    obtain ⟨d0, d1, d2, d3⟩ := four HW2.out
    obtain ⟨g0, g1, g2, g3⟩ := free4 HW2.out
    go_wp2
    refine bodyPost_ret (v := .tuple #[.agg #[.int .u32 (m : Nat), .int .u32 (M : Nat), .int .u64 (T : Nat), .slice ra rn rc], .int .i64 F]) (by simp [results, Try.results26, go_sem, hlt2, d0, d1, d2, d3]) rfl (Gave.mk rfl (alloc_owns (put4_owns HR.out HW2.out) _) ((put4_below HB2.out (by simp)).alloc (by show w.heap.size ≤ (put4 w2 _ _ _ _ _).heap.size; rw [put4_size]; omega) _))

set_option maxHeartbeats 4000000 in
set_option maxRecDepth 100000 in
theorem changed_done (L M T : Nat) (hL : L < 4294967296) (v : Value) (l : List UInt8) (w : World) (hv : IsArg w v l) (hl : l.length ≤ 140737488355328) (z : Int) (F : Int) (hF : lineP T l.length z = F) (m : Nat) (hm : doneP L T l.length z = m) :
    Calls Try.prog 26 #[.agg #[.int .u32 (L : Nat), .int .u32 (M : Nat), .int .u64 (T : Nat), v], .int .i64 z, .func (.func 27) #[] #[]] w (Gave w m M T l F) := by
  have HV := Lib.hid hv
  have HL := Lib.hid hl
  have HB := Lib.hid (((Below.refl w.heap.size w).alloc (Nat.le_refl _) (.cells #[.int .u32 (L : Nat), .int .u32 (M : Nat), .int .u64 (T : Nat), v] 26)).alloc (by simp) (.cells #[.int .u32 0, .int .u32 0, .int .u64 0, .slice none 0 0] 26))
  obtain ⟨a, n, c, rfl, hn⟩ := hv.shape3
  have HN := Lib.hid (show n ≤ maxLen by rw [hn]; exact arg_len hv)
  have HNL := Lib.hid hn
  rw [← hn] at hF hm
  have HF := Lib.hid hF
  by_cases h0 : F = 0
  · subst h0
    obtain ⟨k, rfl, hk⟩ : ∃ k : Nat, z = (k : Int) ∧ k ≤ 31 := by
      rcases line_cases T n z with ⟨h, _⟩ | ⟨h, _⟩ | ⟨_, _, _, h1, h2⟩
      · rw [hF] at h; cases h
      · rw [hF] at h; cases h
      · obtain ⟨k, rfl⟩ := Int.eq_ofNat_of_zero_le h1
        exact ⟨k, rfl, by omega⟩
    rw [doneP, if_pos hF, Int.toNat_natCast] at hm
    have HM := Lib.hid hm
    obtain ⟨b, hbk⟩ : ∃ b, b = 2 ^ k := ⟨_, rfl⟩
    have HBK := Lib.hid hbk
    clear hv hn hF hm hl hbk
    go_enter Try.func26, Try.ntmps26
    go_wp2_with fail
    refine (line_any _ _ _ _ _ _ HN.out _ _ HF.out _).mono ?_
    rintro e w1 ⟨rfl, hb⟩
    have HB1 := Lib.hid (HB.out.trans (hb.mono (by simp; omega)))
    obtain ⟨hrow, hrow1, hlt⟩ := boxes_rows hb
    have HW1 := Lib.hid hrow1
    obtain ⟨c0, c1, c2, c3⟩ := four hrow
    clear hb hrow hrow1
    go_wp2_with fail
    refine (same_any _ _ _ _ _ _ (HV.out.below HB1.out) HL.out).mono ?_
    rintro e w2 ⟨r, rfl, hr, hb⟩
    have HR := Lib.hid (ownsRow_base (base' := w.heap.size) hr HB1.out.size)
    obtain ⟨ra, rn, rc, rfl, hrn⟩ := (isArg_of_owns hr).shape3
    have HW2 := Lib.hid (row_keep HW1.out hb)
    have HB2 := Lib.hid (HB1.out.trans (hb.mono HB1.out.size))
    have hlt2 : w.heap.size + 1 < w2.heap.size := Nat.lt_of_lt_of_le hlt hb.size
    clear hr hb hrn c0 c1 c2 c3
    go_wp2_with fail
    refine (bitOf_any k hk b HBK.out _).mono ?_
    rintro e w0 ⟨rfl, rfl⟩
    go_wp2_with fail
    have hnew := heap_alloc_new w2 (.cells #[.int .u32 (L : Nat), .int .u32 (M : Nat), .int .u64 (T : Nat), .slice ra rn rc] 26 (0, 0))
    refine (doneBit L M T _ k hL hk m HM.out b HBK.out _ _ hnew).mono ?_
    rintro e w3 ⟨rfl, hrow3, hb⟩
    have HW3 := Lib.hid hrow3
    have hb0 : Below w2.heap.size w2 w3 := ((Below.refl w2.heap.size w2).alloc (Nat.le_refl _) _).trans hb
    have HB3 := Lib.hid (HB2.out.trans (hb0.mono HB2.out.size))
    have HR3 := Lib.hid (ownsRow_below HR.out hb0)
    have HX3 := Lib.hid (row_keep HW2.out hb0)
    obtain ⟨c0, c1, c2, c3⟩ := four hrow3
    obtain ⟨d0, d1, d2, d3⟩ := four HX3.out
    obtain ⟨g0, g1, g2, g3⟩ := free4 HX3.out
    have hlt3 : w.heap.size + 1 < w3.heap.size := Nat.lt_of_lt_of_le hlt2 hb0.size
    clear hb hb0 hrow3 hnew
    go_wp2
    refine bodyPost_ret (v := .tuple #[.agg #[.int .u32 (m : Nat), .int .u32 (M : Nat), .int .u64 (T : Nat), .slice ra rn rc], .int .i64 0]) (by simp [results, Try.results26, go_sem, d0, d1, d2, d3]) rfl (Gave.mk rfl (put4_owns HR3.out HX3.out) (put4_below HB3.out (by simp)))
  · obtain rfl : m = L := by rw [← hm, doneP, if_neg (by rw [hF]; exact h0)]
    clear hv hn hm hl hF
    go_enter Try.func26, Try.ntmps26
    go_wp2_with fail
    refine (line_any _ _ _ _ _ _ HN.out _ _ HF.out _).mono ?_
    rintro e w1 ⟨rfl, hb⟩
    have HB1 := Lib.hid (HB.out.trans (hb.mono (by simp; omega)))
    obtain ⟨hrow, hrow1, hlt⟩ := boxes_rows hb
    have HW1 := Lib.hid hrow1
    obtain ⟨c0, c1, c2, c3⟩ := four hrow
    clear hb hrow hrow1
    go_wp2_with fail
    refine (same_any _ _ _ _ _ _ (HV.out.below HB1.out) HL.out).mono ?_
    rintro e w2 ⟨r, rfl, hr, hb⟩
    have HR := Lib.hid (ownsRow_base (base' := w.heap.size) hr HB1.out.size)
    obtain ⟨ra, rn, rc, rfl, hrn⟩ := (isArg_of_owns hr).shape3
    have HW2 := Lib.hid (row_keep HW1.out hb)
    have HB2 := Lib.hid (HB1.out.trans (hb.mono HB1.out.size))
    have hlt2 : w.heap.size + 1 < w2.heap.size := Nat.lt_of_lt_of_le hlt hb.size
    clear hr hb hrn c0 c1 c2 c3
    obtain ⟨d0, d1, d2, d3⟩ := four HW2.out
    obtain ⟨g0, g1, g2, g3⟩ := free4 HW2.out
    go_wp2
    refine bodyPost_ret (v := .tuple #[.agg #[.int .u32 (m : Nat), .int .u32 (M : Nat), .int .u64 (T : Nat), .slice ra rn rc], .int .i64 F]) (by simp [results, Try.results26, go_sem, hlt2, d0, d1, d2, d3]) rfl (Gave.mk rfl (alloc_owns (put4_owns HR.out HW2.out) _) ((put4_below HB2.out (by simp)).alloc (by show w.heap.size ≤ (put4 w2 _ _ _ _ _).heap.size; rw [put4_size]; omega) _))

set_option maxHeartbeats 4000000 in
set_option maxRecDepth 100000 in
theorem changed_hear (L M T : Nat) (hM : M < 4294967296) (v : Value) (l : List UInt8) (w : World) (hv : IsArg w v l) (hl : l.length ≤ 140737488355328) (z : Int) (on : Bool) (q : Nat) (hq : ∀ W, Below w.heap.size w W → W.heap[q]? = some (.cells #[.bool on] 4 (0, 0))) (F : Int) (hF : lineP T l.length z = F) (m : Nat) (hm : hearP M T l.length z on = m) :
    Calls Try.prog 26 #[.agg #[.int .u32 (L : Nat), .int .u32 (M : Nat), .int .u64 (T : Nat), v], .int .i64 z, .func (.func 31) #[] #[.pointer (some ⟨q, 0, none⟩)]] w (Gave w L m T l F) := by
  have HV := Lib.hid hv
  have HL := Lib.hid hl
  have HB := Lib.hid (((Below.refl w.heap.size w).alloc (Nat.le_refl _) (.cells #[.int .u32 (L : Nat), .int .u32 (M : Nat), .int .u64 (T : Nat), v] 26)).alloc (by simp) (.cells #[.int .u32 0, .int .u32 0, .int .u64 0, .slice none 0 0] 26))
  obtain ⟨a, n, c, rfl, hn⟩ := hv.shape3
  have HN := Lib.hid (show n ≤ maxLen by rw [hn]; exact arg_len hv)
  have HNL := Lib.hid hn
  rw [← hn] at hF hm
  have HF := Lib.hid hF
  have HQ := Lib.hid hq
  clear hq
  by_cases h0 : F = 0
  · subst h0
    obtain ⟨k, rfl, hk⟩ : ∃ k : Nat, z = (k : Int) ∧ k ≤ 31 := by
      rcases line_cases T n z with ⟨h, _⟩ | ⟨h, _⟩ | ⟨_, _, _, h1, h2⟩
      · rw [hF] at h; cases h
      · rw [hF] at h; cases h
      · obtain ⟨k, rfl⟩ := Int.eq_ofNat_of_zero_le h1
        exact ⟨k, rfl, by omega⟩
    rw [hearP, if_pos hF, Int.toNat_natCast] at hm
    have HM := Lib.hid hm
    obtain ⟨b, hbk⟩ : ∃ b, b = 2 ^ k := ⟨_, rfl⟩
    have HBK := Lib.hid hbk
    clear hv hn hF hm hl hbk
    go_enter Try.func26, Try.ntmps26
    go_wp2_with fail
    refine (line_any _ _ _ _ _ _ HN.out _ _ HF.out _).mono ?_
    rintro e w1 ⟨rfl, hb⟩
    have HB1 := Lib.hid (HB.out.trans (hb.mono (by simp; omega)))
    obtain ⟨hrow, hrow1, hlt⟩ := boxes_rows hb
    have HW1 := Lib.hid hrow1
    obtain ⟨c0, c1, c2, c3⟩ := four hrow
    clear hb hrow hrow1
    go_wp2_with fail
    refine (same_any _ _ _ _ _ _ (HV.out.below HB1.out) HL.out).mono ?_
    rintro e w2 ⟨r, rfl, hr, hb⟩
    have HR := Lib.hid (ownsRow_base (base' := w.heap.size) hr HB1.out.size)
    obtain ⟨ra, rn, rc, rfl, hrn⟩ := (isArg_of_owns hr).shape3
    have HW2 := Lib.hid (row_keep HW1.out hb)
    have HB2 := Lib.hid (HB1.out.trans (hb.mono HB1.out.size))
    have hlt2 : w.heap.size + 1 < w2.heap.size := Nat.lt_of_lt_of_le hlt hb.size
    clear hr hb hrn c0 c1 c2 c3
    go_wp2_with fail
    refine (bitOf_any k hk b HBK.out _).mono ?_
    rintro e w0 ⟨rfl, rfl⟩
    go_wp2_with fail
    have hnew := heap_alloc_new w2 (.cells #[.int .u32 (L : Nat), .int .u32 (M : Nat), .int .u64 (T : Nat), .slice ra rn rc] 26 (0, 0))
    refine (hearBit L M T _ k hM hk on m HM.out b HBK.out _ q _ hnew (HQ.out _ (HB2.out.alloc HB2.out.size _))).mono ?_
    rintro e w3 ⟨rfl, hrow3, hb⟩
    have HW3 := Lib.hid hrow3
    have hb0 : Below w2.heap.size w2 w3 := ((Below.refl w2.heap.size w2).alloc (Nat.le_refl _) _).trans hb
    have HB3 := Lib.hid (HB2.out.trans (hb0.mono HB2.out.size))
    have HR3 := Lib.hid (ownsRow_below HR.out hb0)
    have HX3 := Lib.hid (row_keep HW2.out hb0)
    obtain ⟨c0, c1, c2, c3⟩ := four hrow3
    obtain ⟨d0, d1, d2, d3⟩ := four HX3.out
    obtain ⟨g0, g1, g2, g3⟩ := free4 HX3.out
    have hlt3 : w.heap.size + 1 < w3.heap.size := Nat.lt_of_lt_of_le hlt2 hb0.size
    clear hb hb0 hrow3 hnew
    go_wp2
    refine bodyPost_ret (v := .tuple #[.agg #[.int .u32 (L : Nat), .int .u32 (m : Nat), .int .u64 (T : Nat), .slice ra rn rc], .int .i64 0]) (by simp [results, Try.results26, go_sem, d0, d1, d2, d3]) rfl (Gave.mk rfl (put4_owns HR3.out HX3.out) (put4_below HB3.out (by simp)))
  · obtain rfl : m = M := by rw [← hm, hearP, if_neg (by rw [hF]; exact h0)]
    clear hv hn hm hl hF
    go_enter Try.func26, Try.ntmps26
    go_wp2_with fail
    refine (line_any _ _ _ _ _ _ HN.out _ _ HF.out _).mono ?_
    rintro e w1 ⟨rfl, hb⟩
    have HB1 := Lib.hid (HB.out.trans (hb.mono (by simp; omega)))
    obtain ⟨hrow, hrow1, hlt⟩ := boxes_rows hb
    have HW1 := Lib.hid hrow1
    obtain ⟨c0, c1, c2, c3⟩ := four hrow
    clear hb hrow hrow1
    go_wp2_with fail
    refine (same_any _ _ _ _ _ _ (HV.out.below HB1.out) HL.out).mono ?_
    rintro e w2 ⟨r, rfl, hr, hb⟩
    have HR := Lib.hid (ownsRow_base (base' := w.heap.size) hr HB1.out.size)
    obtain ⟨ra, rn, rc, rfl, hrn⟩ := (isArg_of_owns hr).shape3
    have HW2 := Lib.hid (row_keep HW1.out hb)
    have HB2 := Lib.hid (HB1.out.trans (hb.mono HB1.out.size))
    have hlt2 : w.heap.size + 1 < w2.heap.size := Nat.lt_of_lt_of_le hlt hb.size
    clear hr hb hrn c0 c1 c2 c3
    obtain ⟨d0, d1, d2, d3⟩ := four HW2.out
    obtain ⟨g0, g1, g2, g3⟩ := free4 HW2.out
    go_wp2
    refine bodyPost_ret (v := .tuple #[.agg #[.int .u32 (L : Nat), .int .u32 (m : Nat), .int .u64 (T : Nat), .slice ra rn rc], .int .i64 F]) (by simp [results, Try.results26, go_sem, hlt2, d0, d1, d2, d3]) rfl (Gave.mk rfl (alloc_owns (put4_owns HR.out HW2.out) _) ((put4_below HB2.out (by simp)).alloc (by show w.heap.size ≤ (put4 w2 _ _ _ _ _).heap.size; rw [put4_size]; omega) _))

set_option maxHeartbeats 4000000 in
set_option maxRecDepth 100000 in
theorem raise_any (L M T : Nat) (hL : L < 4294967296) (v : Value) (l : List UInt8) (w : World) (hv : IsArg w v l) (hl : l.length ≤ 140737488355328) (z : Int) (F : Int) (hF : lineP T l.length z = F) (m : Nat) (hm : raiseP L T l.length z = m) :
    Calls Try.prog 10 #[.agg #[.int .u32 (L : Nat), .int .u32 (M : Nat), .int .u64 (T : Nat), v], .int .i64 z] w (Gave w m M T l F) := by
  have HV := Lib.hid hv
  have HL := Lib.hid hl
  have HF := Lib.hid hF
  have HM := Lib.hid hm
  have HB := Lib.hid (((Below.refl w.heap.size w).alloc (Nat.le_refl _) (.cells #[.int .u32 (L : Nat), .int .u32 (M : Nat), .int .u64 (T : Nat), v] 26)).alloc (by simp) (.cells #[.int .u32 0, .int .u32 0, .int .u64 0, .slice none 0 0] 26))
  obtain ⟨a, n, c, rfl, hn⟩ := hv.shape3
  clear hv hn hm hl hF
  go_enter Try.func10, Try.ntmps10
  go_wp2_with fail
  refine (changed_raise L M T hL _ l _ (HV.out.below HB.out) HL.out _ F HF.out m HM.out).mono ?_
  rintro e w1 ⟨r, rfl, hr, hb⟩
  have HB1 := Lib.hid (HB.out.trans (hb.mono (by simp; omega)))
  obtain ⟨hrow, hrow1, hlt⟩ := boxes_rows hb
  have HW1 := Lib.hid hrow1
  have HR := Lib.hid (ownsRow_base (base' := w.heap.size) hr (by simp; omega))
  obtain ⟨ra, rn, rc, rfl, hrn⟩ := (isArg_of_owns hr).shape3
  obtain ⟨d0, d1, d2, d3⟩ := four hrow1
  obtain ⟨g0, g1, g2, g3⟩ := free4 hrow1
  clear hr hb hrn hrow hrow1
  go_wp2
  refine bodyPost_ret (v := .tuple #[.agg #[.int .u32 (m : Nat), .int .u32 (M : Nat), .int .u64 (T : Nat), .slice ra rn rc], .int .i64 F]) (by simp [results, Try.results10, go_sem, d0, d1, d2, d3]) rfl (Gave.mk rfl (put4_owns HR.out HW1.out) (put4_below HB1.out (by simp)))

set_option maxHeartbeats 4000000 in
set_option maxRecDepth 100000 in
theorem done_any (L M T : Nat) (hL : L < 4294967296) (v : Value) (l : List UInt8) (w : World) (hv : IsArg w v l) (hl : l.length ≤ 140737488355328) (z : Int) (F : Int) (hF : lineP T l.length z = F) (m : Nat) (hm : doneP L T l.length z = m) :
    Calls Try.prog 9 #[.agg #[.int .u32 (L : Nat), .int .u32 (M : Nat), .int .u64 (T : Nat), v], .int .i64 z] w (Gave w m M T l F) := by
  have HV := Lib.hid hv
  have HL := Lib.hid hl
  have HF := Lib.hid hF
  have HM := Lib.hid hm
  have HB := Lib.hid (((Below.refl w.heap.size w).alloc (Nat.le_refl _) (.cells #[.int .u32 (L : Nat), .int .u32 (M : Nat), .int .u64 (T : Nat), v] 26)).alloc (by simp) (.cells #[.int .u32 0, .int .u32 0, .int .u64 0, .slice none 0 0] 26))
  obtain ⟨a, n, c, rfl, hn⟩ := hv.shape3
  clear hv hn hm hl hF
  go_enter Try.func9, Try.ntmps9
  go_wp2_with fail
  refine (changed_done L M T hL _ l _ (HV.out.below HB.out) HL.out _ F HF.out m HM.out).mono ?_
  rintro e w1 ⟨r, rfl, hr, hb⟩
  have HB1 := Lib.hid (HB.out.trans (hb.mono (by simp; omega)))
  obtain ⟨hrow, hrow1, hlt⟩ := boxes_rows hb
  have HW1 := Lib.hid hrow1
  have HR := Lib.hid (ownsRow_base (base' := w.heap.size) hr (by simp; omega))
  obtain ⟨ra, rn, rc, rfl, hrn⟩ := (isArg_of_owns hr).shape3
  obtain ⟨d0, d1, d2, d3⟩ := four hrow1
  obtain ⟨g0, g1, g2, g3⟩ := free4 hrow1
  clear hr hb hrn hrow hrow1
  go_wp2
  refine bodyPost_ret (v := .tuple #[.agg #[.int .u32 (m : Nat), .int .u32 (M : Nat), .int .u64 (T : Nat), .slice ra rn rc], .int .i64 F]) (by simp [results, Try.results9, go_sem, d0, d1, d2, d3]) rfl (Gave.mk rfl (put4_owns HR.out HW1.out) (put4_below HB1.out (by simp)))

theorem boxes3 {w w' : World} {cs ds es : Array Value} {s t u : TypeId} {fr fs ft : Nat × Nat} (h : Below (((w.alloc (.cells cs s fr)).alloc (.cells ds t fs)).alloc (.cells es u ft)).heap.size (((w.alloc (.cells cs s fr)).alloc (.cells ds t fs)).alloc (.cells es u ft)) w') :
    w'.heap[w.heap.size]? = some (.cells cs s fr) ∧ w'.heap[w.heap.size + 1]? = some (.cells ds t fs) ∧ w'.heap[w.heap.size + 2]? = some (.cells es u ft) ∧ w.heap.size + 2 < w'.heap.size := by
  have b2 : Below ((w.alloc (.cells cs s fr)).alloc (.cells ds t fs)).heap.size ((w.alloc (.cells cs s fr)).alloc (.cells ds t fs)) w' := ((Below.refl _ _).alloc (Nat.le_refl _) (.cells es u ft)).trans (h.mono (by simp))
  obtain ⟨h1, h2, _⟩ := boxes_rows b2
  have h3 := row_keep (heap_alloc_new ((w.alloc (.cells cs s fr)).alloc (.cells ds t fs)) (.cells es u ft)) h
  have h4 := h.size
  simp at h3 h4
  exact ⟨h1, h2, h3, by omega⟩
set_option maxHeartbeats 4000000 in
set_option maxRecDepth 100000 in
theorem hear_any (L M T : Nat) (hM : M < 4294967296) (v : Value) (l : List UInt8) (w : World) (hv : IsArg w v l) (hl : l.length ≤ 140737488355328) (z : Int) (on : Bool) (F : Int) (hF : lineP T l.length z = F) (m : Nat) (hm : hearP M T l.length z on = m) :
    Calls Try.prog 13 #[.agg #[.int .u32 (L : Nat), .int .u32 (M : Nat), .int .u64 (T : Nat), v], .int .i64 z, .bool on] w (Gave w L m T l F) := by
  have HV := Lib.hid hv
  have HL := Lib.hid hl
  have HF := Lib.hid hF
  have HM := Lib.hid hm
  have HB := Lib.hid ((((Below.refl w.heap.size w).alloc (Nat.le_refl _) (.cells #[.int .u32 (L : Nat), .int .u32 (M : Nat), .int .u64 (T : Nat), v] 26)).alloc (by simp) (.cells #[.bool on] 4)).alloc (by simp; omega) (.cells #[.int .u32 0, .int .u32 0, .int .u64 0, .slice none 0 0] 26))
  obtain ⟨a, n, c, rfl, hn⟩ := hv.shape3
  clear hv hn hm hl hF
  go_enter Try.func13, Try.ntmps13
  go_wp2_with fail
  refine (changed_hear L M T hM _ l _ (HV.out.below HB.out) HL.out _ on _ (fun W hW => (boxes3 hW).2.1) F HF.out m HM.out).mono ?_
  rintro e w1 ⟨r, rfl, hr, hb⟩
  have HB1 := Lib.hid (HB.out.trans (hb.mono (by simp; omega)))
  obtain ⟨hrow, _, hrow1, hlt⟩ := boxes3 hb
  have HW1 := Lib.hid hrow1
  have HR := Lib.hid (ownsRow_base (base' := w.heap.size) hr (by simp; omega))
  obtain ⟨ra, rn, rc, rfl, hrn⟩ := (isArg_of_owns hr).shape3
  obtain ⟨d0, d1, d2, d3⟩ := four hrow1
  obtain ⟨g0, g1, g2, g3⟩ := free4 hrow1
  clear hr hb hrn hrow hrow1
  go_wp2
  refine bodyPost_ret (v := .tuple #[.agg #[.int .u32 (L : Nat), .int .u32 (m : Nat), .int .u64 (T : Nat), .slice ra rn rc], .int .i64 F]) (by simp [results, Try.results13, go_sem, d0, d1, d2, d3]) rfl (Gave.mk rfl (put4_owns HR.out HW1.out) (put4_below HB1.out (by omega)))
end Go.Proofs.Ytpnfikbpcpdgiaa
