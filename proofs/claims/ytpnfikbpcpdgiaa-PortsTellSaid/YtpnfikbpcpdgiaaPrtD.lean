/- What ports.Tick, Fill and Draw answer. -/
import Derived.Test.YtpnfikbpcpdgiaaPrtC
import Derived.Test.YtpnfikbpcpdgiaaPart
namespace Go.Proofs.Ytpnfikbpcpdgiaa
open Go.RowKit Go.Lib

set_option maxHeartbeats 4000000 in
set_option maxRecDepth 100000 in
theorem tick_any (L M T : Nat) (v : Value) (l : List UInt8) (w : World) (hv : IsArg w v l) (hl : l.length ≤ 140737488355328) (t : Nat) (F : Int) (hF : tickP T l.length t = F) (m : Nat) (hm : tickT T l.length t = m) :
    Calls Try.prog 16 #[.agg #[.int .u32 (L : Nat), .int .u32 (M : Nat), .int .u64 (T : Nat), v], .int .u64 (t : Nat)] w (Gave w L M m l F) := by
  have HV := Lib.hid hv
  have HL := Lib.hid hl
  have HB := Lib.hid (((Below.refl w.heap.size w).alloc (Nat.le_refl _) (.cells #[.int .u32 (L : Nat), .int .u32 (M : Nat), .int .u64 (T : Nat), v] 26)).alloc (by simp) (.cells #[.int .u32 0, .int .u32 0, .int .u64 0, .slice none 0 0] 26))
  obtain ⟨a, n, c, rfl, hn⟩ := hv.shape3
  have HN := Lib.hid (show n ≤ maxLen by rw [hn]; exact arg_len hv)
  rw [← hn] at hF hm
  have HF := Lib.hid hF
  by_cases h0 : F = 0
  · subst h0
    obtain rfl : m = t := by rw [← hm, tickT, if_pos hF]
    clear hv hn hm hl hF
    go_enter Try.func16, Try.ntmps16
    go_wp2_with fail
    refine (tickFault_any _ _ _ _ _ _ HN.out _ _ HF.out _).mono ?_
    rintro e w1 ⟨rfl, hb⟩
    have HB1 := Lib.hid (HB.out.trans (hb.mono (by simp; omega)))
    obtain ⟨hrow, hrow1, hlt⟩ := boxes_rows hb
    have HW1 := Lib.hid hrow1
    obtain ⟨c0, c1, c2, c3⟩ := four hrow
    clear hb hrow hrow1
    go_wp2_with fail
    refine (same_any _ _ _ _ _ _ (HV.out.below HB1.out) HL.out).mono ?_
    rintro e w2 ⟨r, rfl, hr, hb⟩
    have HR := Lib.hid (ownsRow_base (base' := w.heap.size) hr HB1.out.size)
    obtain ⟨ra, rn, rc, rfl, hrn⟩ := (isArg_of_owns hr).shape3
    have HW2 := Lib.hid (row_keep HW1.out hb)
    have HB2 := Lib.hid (HB1.out.trans (hb.mono HB1.out.size))
    have hlt2 : w.heap.size + 1 < w2.heap.size := Nat.lt_of_lt_of_le hlt hb.size
    clear hr hb hrn c0 c1 c2 c3
    obtain ⟨d0, d1, d2, d3⟩ := four HW2.out
    obtain ⟨g0, g1, g2, g3⟩ := free4 HW2.out
    go_wp2
    refine bodyPost_ret (v := .tuple #[.agg #[.int .u32 (L : Nat), .int .u32 (M : Nat), .int .u64 (m : Nat), .slice ra rn rc], .int .i64 0]) (by simp [results, Try.results16, go_sem, hlt2, d0, d1, d2, d3]) rfl (Gave.mk rfl (alloc_owns (put4_owns HR.out HW2.out) _) ((put4_below HB2.out (by simp)).alloc (by show w.heap.size ≤ (put4 w2 _ _ _ _ _).heap.size; rw [put4_size]; omega) _))
  · obtain rfl : m = T := by rw [← hm, tickT, if_neg (by rw [hF]; exact h0)]
    clear hv hn hm hl hF
    go_enter Try.func16, Try.ntmps16
    go_wp2_with fail
    refine (tickFault_any _ _ _ _ _ _ HN.out _ _ HF.out _).mono ?_
    rintro e w1 ⟨rfl, hb⟩
    have HB1 := Lib.hid (HB.out.trans (hb.mono (by simp; omega)))
    obtain ⟨hrow, hrow1, hlt⟩ := boxes_rows hb
    have HW1 := Lib.hid hrow1
    obtain ⟨c0, c1, c2, c3⟩ := four hrow
    clear hb hrow hrow1
    go_wp2_with fail
    refine (same_any _ _ _ _ _ _ (HV.out.below HB1.out) HL.out).mono ?_
    rintro e w2 ⟨r, rfl, hr, hb⟩
    have HR := Lib.hid (ownsRow_base (base' := w.heap.size) hr HB1.out.size)
    obtain ⟨ra, rn, rc, rfl, hrn⟩ := (isArg_of_owns hr).shape3
    have HW2 := Lib.hid (row_keep HW1.out hb)
    have HB2 := Lib.hid (HB1.out.trans (hb.mono HB1.out.size))
    have hlt2 : w.heap.size + 1 < w2.heap.size := Nat.lt_of_lt_of_le hlt hb.size
    clear hr hb hrn c0 c1 c2 c3
    obtain ⟨d0, d1, d2, d3⟩ := four HW2.out
    obtain ⟨g0, g1, g2, g3⟩ := free4 HW2.out
    go_wp2
    refine bodyPost_ret (v := .tuple #[.agg #[.int .u32 (L : Nat), .int .u32 (M : Nat), .int .u64 (m : Nat), .slice ra rn rc], .int .i64 F]) (by simp [results, Try.results16, go_sem, hlt2, d0, d1, d2, d3]) rfl (Gave.mk rfl (alloc_owns (put4_owns HR.out HW2.out) _) ((put4_below HB2.out (by simp)).alloc (by show w.heap.size ≤ (put4 w2 _ _ _ _ _).heap.size; rw [put4_size]; omega) _))

theorem fillL_zero {T : Nat} {l m : List UInt8} (h : fillP T l.length m.length = 0) : fillL T l m = l ++ m := by rw [fillL, if_pos h]
theorem fillL_other {T : Nat} {l m : List UInt8} (h : fillP T l.length m.length ≠ 0) : fillL T l m = l := by rw [fillL, if_neg h]
set_option maxHeartbeats 4000000 in
set_option maxRecDepth 100000 in
theorem fill_any (L M T : Nat) (v : Value) (l : List UInt8) (w : World) (hv : IsArg w v l) (hl : l.length ≤ 140737488355328) (u : Value) (k : List UInt8) (hu : IsArg w u k) (hkl : k.length ≤ 140737488355328) (F : Int) (hF : fillP T l.length k.length = F) (g : List UInt8) (hg : fillL T l k = g) :
    Calls Try.prog 18 #[.agg #[.int .u32 (L : Nat), .int .u32 (M : Nat), .int .u64 (T : Nat), v], u] w (Gave w L M T g F) := by
  have HV := Lib.hid hv
  have HU := Lib.hid hu
  have HL := Lib.hid hl
  have HB := Lib.hid (((Below.refl w.heap.size w).alloc (Nat.le_refl _) (.cells #[.int .u32 (L : Nat), .int .u32 (M : Nat), .int .u64 (T : Nat), v] 26)).alloc (by simp) (.cells #[.int .u32 0, .int .u32 0, .int .u64 0, .slice none 0 0] 26))
  obtain ⟨a, n, c, rfl, hn⟩ := hv.shape3
  obtain ⟨ua, un, uc, rfl, hun⟩ := hu.shape3
  have HN := Lib.hid (show n ≤ maxLen by rw [hn]; exact arg_len hv)
  rw [← hn, ← hun] at hF
  rw [← hn] at hl
  rw [← hun] at hkl
  have HNL := Lib.hid hn
  have HUL := Lib.hid hun
  have HG := Lib.hid hg
  rcases fill_cases T n un with ⟨h, _, hf⟩ | ⟨h, _, hf, h1⟩ | ⟨h, _, hf, h1⟩
  · rw [h] at hF
    subst hF
    obtain rfl : l = g := by rw [← hg]; exact (fillL_other (by rw [← hn, ← hun, h]; decide)).symm
    have HF := Lib.hid hf
    clear hv hu hn hun hg h hf
    go_enter Try.func18, Try.ntmps18
    go_wp2_with fail
    refine (form_any _ _ _ _ _ _ HN.out _ HF.out _).mono ?_
    rintro e w1 ⟨rfl, hb⟩
    have HB1 := Lib.hid (HB.out.trans (hb.mono (by simp; omega)))
    obtain ⟨hrow, hrow1, hlt⟩ := boxes_rows hb
    have HW1 := Lib.hid hrow1
    obtain ⟨c0, c1, c2, c3⟩ := four hrow
    clear hb hrow hrow1
    go_wp2_with fail
    refine (same_any _ _ _ _ _ _ (HV.out.below HB1.out) HL.out).mono ?_
    rintro e w2 ⟨r, rfl, hr, hb⟩
    have HR := Lib.hid (ownsRow_base (base' := w.heap.size) hr HB1.out.size)
    obtain ⟨ra, rn, rc, rfl, hrn⟩ := (isArg_of_owns hr).shape3
    have HW2 := Lib.hid (row_keep HW1.out hb)
    have HB2 := Lib.hid (HB1.out.trans (hb.mono HB1.out.size))
    have hlt2 : w.heap.size + 1 < w2.heap.size := Nat.lt_of_lt_of_le hlt hb.size
    clear hr hb hrn c0 c1 c2 c3
    obtain ⟨d0, d1, d2, d3⟩ := four HW2.out
    obtain ⟨g0, g1, g2, g3⟩ := free4 HW2.out
    go_wp2
    refine bodyPost_ret (v := .tuple #[.agg #[.int .u32 (L : Nat), .int .u32 (M : Nat), .int .u64 (T : Nat), .slice ra rn rc], .int .i64 3]) (by simp [results, Try.results18, go_sem, d0, d1, d2, d3]) rfl (Gave.mk rfl (put4_owns HR.out HW2.out) (put4_below HB2.out (by simp)))
  · rw [h] at hF
    subst hF
    obtain rfl : l = g := by rw [← hg]; exact (fillL_other (by rw [← hn, ← hun, h]; decide)).symm
    have HF := Lib.hid hf
    clear hv hu hn hun hg h hf
    have hdd : decide ((64 : Int) < (n : Int) + (un : Int)) = true := decide_eq_true (by omega)
    go_enter Try.func18, Try.ntmps18
    go_wp2_with fail
    refine (form_any _ _ _ _ _ _ HN.out _ HF.out _).mono ?_
    rintro e w1 ⟨rfl, hb⟩
    have HB1 := Lib.hid (HB.out.trans (hb.mono (by simp; omega)))
    obtain ⟨hrow, hrow1, hlt⟩ := boxes_rows hb
    have HW1 := Lib.hid hrow1
    obtain ⟨c0, c1, c2, c3⟩ := four hrow
    clear hb hrow hrow1
    go_wp2_with fail
    refine (same_any _ _ _ _ _ _ (HV.out.below HB1.out) HL.out).mono ?_
    rintro e w2 ⟨r, rfl, hr, hb⟩
    have HR := Lib.hid (ownsRow_base (base' := w.heap.size) hr HB1.out.size)
    obtain ⟨ra, rn, rc, rfl, hrn⟩ := (isArg_of_owns hr).shape3
    have HW2 := Lib.hid (row_keep HW1.out hb)
    have HB2 := Lib.hid (HB1.out.trans (hb.mono HB1.out.size))
    have hlt2 : w.heap.size + 1 < w2.heap.size := Nat.lt_of_lt_of_le hlt hb.size
    clear hr hb hrn c0 c1 c2 c3
    obtain ⟨d0, d1, d2, d3⟩ := four HW2.out
    obtain ⟨g0, g1, g2, g3⟩ := free4 HW2.out
    go_wp2
    refine bodyPost_ret (v := .tuple #[.agg #[.int .u32 (L : Nat), .int .u32 (M : Nat), .int .u64 (T : Nat), .slice ra rn rc], .int .i64 4]) (by simp [results, Try.results18, go_sem, d0, d1, d2, d3]) rfl (Gave.mk rfl (put4_owns HR.out HW2.out) (put4_below HB2.out (by simp)))
  · rw [h] at hF
    subst hF
    have hg2 : g = l ++ k := by rw [← hg]; exact fillL_zero (by rw [← hn, ← hun, h])
    have HG2 := Lib.hid hg2
    have HF := Lib.hid hf
    have HX := Lib.hid (show (l ++ k).length ≤ 140737488355328 by rw [List.length_append, ← hn, ← hun]; omega)
    clear hv hu hn hun hg h hf hg2
    have hdd : decide ((64 : Int) < (n : Int) + (un : Int)) = false := decide_eq_false (by omega)
    go_enter Try.func18, Try.ntmps18
    go_wp2_with fail
    refine (form_any _ _ _ _ _ _ HN.out _ HF.out _).mono ?_
    rintro e w1 ⟨rfl, hb⟩
    have HB1 := Lib.hid (HB.out.trans (hb.mono (by simp; omega)))
    obtain ⟨hrow, hrow1, hlt⟩ := boxes_rows hb
    have HW0 := Lib.hid hrow
    have HW1 := Lib.hid hrow1
    obtain ⟨c0, c1, c2, c3⟩ := four hrow
    clear hb hrow hrow1
    go_wp2_with fail
    refine (concat_two (HV.out.below HB1.out) (HU.out.below HB1.out) HX.out).mono ?_
    rintro e w2 ⟨r, rfl, hr, hb⟩
    rw [← List.length_append, ← HG2.out] at hr
    have HR := Lib.hid (ownsRow_base (base' := w.heap.size) hr HB1.out.size)
    obtain ⟨ra, rn, rc, rfl, hrn⟩ := (isArg_of_owns hr).shape3
    have HW3 := Lib.hid (row_keep HW0.out hb)
    have HW2 := Lib.hid (row_keep HW1.out hb)
    have HB2 := Lib.hid (HB1.out.trans (hb.mono HB1.out.size))
    have hlt2 : w.heap.size + 1 < w2.heap.size := Nat.lt_of_lt_of_le hlt hb.size
    clear hr hb hrn c0 c1 c2 c3 hdd
    obtain ⟨c0, c1, c2, c3⟩ := four HW3.out
    obtain ⟨f0, f1, f2, f3⟩ := free4 HW3.out
    obtain ⟨d0, d1, d2, d3⟩ := four HW2.out
    obtain ⟨g0, g1, g2, g3⟩ := free4 HW2.out
    go_wp2
    refine bodyPost_ret (v := .tuple #[.agg #[.int .u32 (L : Nat), .int .u32 (M : Nat), .int .u64 (T : Nat), .slice ra rn rc], .int .i64 0]) (by simp [results, Try.results18, go_sem, d0, d1, d2, d3]) rfl (Gave.mk rfl (put4_owns (owns_far HR.out HW3.out _) (row_far HW2.out _ _ (by simp))) (put4_below (HB2.out.setCell (by simp) _) (by simp)))

theorem taken_zero {T : Nat} {l : List UInt8} {z : Int} (h : drawP T l.length z = 0) : takenL T l z = l.take z.toNat := by rw [takenL, if_pos h]
theorem taken_other {T : Nat} {l : List UInt8} {z : Int} (h : drawP T l.length z ≠ 0) : takenL T l z = [] := by rw [takenL, if_neg h]
theorem left_zero {T : Nat} {l : List UInt8} {z : Int} (h : drawP T l.length z = 0) : leftL T l z = l.drop z.toNat := by rw [leftL, if_pos h]
theorem left_other {T : Nat} {l : List UInt8} {z : Int} (h : drawP T l.length z ≠ 0) : leftL T l z = l := by rw [leftL, if_neg h]
/-- What is answered by Draw. -/
def Drew (w : World) (L M T : Nat) (l k : List UInt8) (F : Int) (e : Ending) (w' : World) : Prop :=
  ∃ r s, e = .returned (.tuple #[.agg #[.int .u32 (L : Nat), .int .u32 (M : Nat), .int .u64 (T : Nat), r], s, .int .i64 F]) ∧ w'.ownsRow w.heap.size 5 1 r l.length (byteCells l) ∧ w'.ownsRow w.heap.size 5 1 s k.length (byteCells k) ∧ Below w.heap.size w w'
theorem Drew.mk {w w' : World} {L M T : Nat} {l k : List UInt8} {F : Int} {e : Ending} {r s : Value} (he : e = .returned (.tuple #[.agg #[.int .u32 (L : Nat), .int .u32 (M : Nat), .int .u64 (T : Nat), r], s, .int .i64 F])) (h : w'.ownsRow w.heap.size 5 1 r l.length (byteCells l)) (h2 : w'.ownsRow w.heap.size 5 1 s k.length (byteCells k)) (hb : Below w.heap.size w w') : Drew w L M T l k F e w' := ⟨r, s, he, h, h2, hb⟩
set_option maxHeartbeats 4000000 in
set_option maxRecDepth 100000 in
theorem draw_any (L M T : Nat) (v : Value) (l : List UInt8) (w : World) (hv : IsArg w v l) (hl : l.length ≤ 140737488355328) (z : Int) (F : Int) (hF : drawP T l.length z = F) (g k : List UInt8) (hg : leftL T l z = g) (hk : takenL T l z = k) :
    Calls Try.prog 20 #[.agg #[.int .u32 (L : Nat), .int .u32 (M : Nat), .int .u64 (T : Nat), v], .int .i64 z] w (Drew w L M T g k F) := by
  have HV := Lib.hid hv
  have HL := Lib.hid hl
  have HB := Lib.hid (((Below.refl w.heap.size w).alloc (Nat.le_refl _) (.cells #[.int .u32 (L : Nat), .int .u32 (M : Nat), .int .u64 (T : Nat), v] 26)).alloc (by simp) (.cells #[.int .u32 0, .int .u32 0, .int .u64 0, .slice none 0 0] 26))
  obtain ⟨a, c, rfl, hc⟩ := hv.shapeC
  obtain ⟨n, hn⟩ : ∃ n, n = l.length := ⟨_, rfl⟩
  have HNL := Lib.hid hn
  have HN := Lib.hid (show n ≤ maxLen by rw [hn]; exact arg_len hv)
  rw [← hn] at hF hc HV HB ⊢
  have HF := Lib.hid hF
  by_cases h0 : F = 0
  · subst h0
    obtain ⟨j, rfl, hj⟩ : ∃ j : Nat, z = (j : Int) ∧ j ≤ n := by
      rcases draw_cases T n z with ⟨h, _⟩ | ⟨h, _⟩ | ⟨h, _⟩ | ⟨_, _, _, h1, h2⟩
      · rw [hF] at h; cases h
      · rw [hF] at h; cases h
      · rw [hF] at h; cases h
      · obtain ⟨j, rfl⟩ := Int.eq_ofNat_of_zero_le h1
        exact ⟨j, rfl, by omega⟩
    rw [left_zero (by rw [← hn]; exact hF), Int.toNat_natCast] at hg
    rw [taken_zero (by rw [← hn]; exact hF), Int.toNat_natCast] at hk
    have HG := Lib.hid hg
    have HK := Lib.hid hk
    have HGL := Lib.hid (show g.length ≤ 140737488355328 by have := HL.out; rw [← hg, List.length_drop]; omega)
    have HKL := Lib.hid (show k.length ≤ 140737488355328 by have := HL.out; rw [← hk, List.length_take]; omega)
    have s1 := cut_to a n c j (by omega)
    have s2 := cut_from a n c j hj
    obtain ⟨u1, hu1⟩ : ∃ u, u = sliced a 0 j c 1 := ⟨_, rfl⟩
    obtain ⟨u2, hu2⟩ : ∃ u, u = sliced a j n c 1 := ⟨_, rfl⟩
    rw [← hu1] at s1
    rw [← hu2] at s2
    have P1 := Lib.hid (show IsArg w u1 k by
      have h := HV.out.part 0 j c (Nat.zero_le _) (by rw [← hn]; exact hj) (by omega) (Nat.le_refl _)
      rw [← hu1, Nat.sub_zero, List.drop_zero, hk] at h
      exact h)
    have P2 := Lib.hid (show IsArg w u2 g by
      have h := HV.out.part j n c hj (by rw [hn]; exact Nat.le_refl _) hc (Nat.le_refl _)
      rw [← hu2, List.take_of_length_le (by rw [List.length_drop, ← hn]; exact Nat.le_refl _), hg] at h
      exact h)
    clear hv hn hF hg hk hu1 hu2 hc hj
    go_enter Try.func20, Try.ntmps20
    go_wp2_with fail
    refine (drawFault_any _ _ _ _ _ _ HN.out _ _ HF.out _).mono ?_
    rintro e w1 ⟨rfl, hb⟩
    have HB1 := Lib.hid (HB.out.trans (hb.mono (by simp; omega)))
    obtain ⟨hrow, hrow1, hlt⟩ := boxes_rows hb
    have HW0 := Lib.hid hrow
    have HW1 := Lib.hid hrow1
    obtain ⟨c0, c1, c2, c3⟩ := four hrow
    clear hb hrow hrow1
    go_wp2_with fail
    refine (clone_any _ _ _ (P1.out.below HB1.out) HKL.out).mono ?_
    rintro e w2 ⟨s, rfl, hs, hb⟩
    have HS := Lib.hid (ownsRow_base (base' := w.heap.size) hs HB1.out.size)
    obtain ⟨sa, sn, sc, rfl, hsn⟩ := (isArg_of_owns hs).shape3
    have HW2 := Lib.hid (row_keep HW0.out hb)
    have HW3 := Lib.hid (row_keep HW1.out hb)
    have HB2 := Lib.hid (HB1.out.trans (hb.mono HB1.out.size))
    have hlt2 : w.heap.size + 1 < w2.heap.size := Nat.lt_of_lt_of_le hlt hb.size
    clear hs hb hsn c0 c1 c2 c3 hlt
    obtain ⟨c0, c1, c2, c3⟩ := four HW2.out
    go_wp2_with fail
    refine (clone_any _ _ _ (P2.out.below HB2.out) HGL.out).mono ?_
    rintro e w3 ⟨r, rfl, hr, hb⟩
    have HR := Lib.hid (ownsRow_base (base' := w.heap.size) hr HB2.out.size)
    have HS3 := Lib.hid (ownsRow_below HS.out hb)
    obtain ⟨ra, rn, rc, rfl, hrn⟩ := (isArg_of_owns hr).shape3
    have HW4 := Lib.hid (row_keep HW2.out hb)
    have HW5 := Lib.hid (row_keep HW3.out hb)
    have HB3 := Lib.hid (HB2.out.trans (hb.mono HB2.out.size))
    have hlt3 : w.heap.size + 1 < w3.heap.size := Nat.lt_of_lt_of_le hlt2 hb.size
    clear hr hb hrn c0 c1 c2 c3 hlt2
    obtain ⟨c0, c1, c2, c3⟩ := four HW4.out
    obtain ⟨f0, f1, f2, f3⟩ := free4 HW4.out
    obtain ⟨d0, d1, d2, d3⟩ := four HW5.out
    obtain ⟨g0, g1, g2, g3⟩ := free4 HW5.out
    go_wp2
    refine bodyPost_ret (v := .tuple #[.agg #[.int .u32 (L : Nat), .int .u32 (M : Nat), .int .u64 (T : Nat), .slice ra rn rc], .slice sa sn sc, .int .i64 0]) (by simp [results, Try.results20, go_sem, d0, d1, d2, d3]) rfl (Drew.mk rfl (put4_owns (owns_far HR.out HW4.out _) (row_far HW5.out _ _ (by simp))) (put4_owns (owns_far HS3.out HW4.out _) (row_far HW5.out _ _ (by simp))) (put4_below (HB3.out.setCell (by simp) _) (by simp)))
  · obtain rfl : g = l := by rw [← hg]; exact left_other (by rw [← hn, hF]; exact h0)
    obtain rfl : k = [] := by rw [← hk]; exact taken_other (by rw [← hn, hF]; exact h0)
    clear hv hn hF hg hk hc
    go_enter Try.func20, Try.ntmps20
    go_wp2_with fail
    refine (drawFault_any _ _ _ _ _ _ HN.out _ _ HF.out _).mono ?_
    rintro e w1 ⟨rfl, hb⟩
    have HB1 := Lib.hid (HB.out.trans (hb.mono (by simp; omega)))
    obtain ⟨hrow, hrow1, hlt⟩ := boxes_rows hb
    have HW1 := Lib.hid hrow1
    obtain ⟨c0, c1, c2, c3⟩ := four hrow
    clear hb hrow hrow1
    go_wp2_with fail
    refine (same_any _ _ _ _ _ _ (HV.out.below HB1.out) HL.out).mono ?_
    rintro e w2 ⟨r, rfl, hr, hb⟩
    have HR := Lib.hid (ownsRow_base (base' := w.heap.size) hr HB1.out.size)
    obtain ⟨ra, rn, rc, rfl, hrn⟩ := (isArg_of_owns hr).shape3
    have HW2 := Lib.hid (row_keep HW1.out hb)
    have HB2 := Lib.hid (HB1.out.trans (hb.mono HB1.out.size))
    have hlt2 : w.heap.size + 1 < w2.heap.size := Nat.lt_of_lt_of_le hlt hb.size
    clear hr hb hrn c0 c1 c2 c3
    obtain ⟨d0, d1, d2, d3⟩ := four HW2.out
    obtain ⟨g0, g1, g2, g3⟩ := free4 HW2.out
    go_wp2
    refine bodyPost_ret (v := .tuple #[.agg #[.int .u32 (L : Nat), .int .u32 (M : Nat), .int .u64 (T : Nat), .slice ra rn rc], .slice none 0 0, .int .i64 F]) (by simp [results, Try.results20, go_sem, d0, d1, d2, d3]) rfl (Drew.mk rfl (put4_owns HR.out HW2.out) (World.ownsRow_nil _ _ _ _) (put4_below HB2.out (by simp)))
end Go.Proofs.Ytpnfikbpcpdgiaa
