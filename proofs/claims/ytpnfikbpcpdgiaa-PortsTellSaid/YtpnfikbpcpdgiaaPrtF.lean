/- What the document's own Raise, Hear, Done, Tick, Fill, Draw and Same answer. -/
import Derived.Test.YtpnfikbpcpdgiaaPrtD
namespace Go.Proofs.Ytpnfikbpcpdgiaa
open Go.RowKit Go.Lib

/-- Bytes that stay where a box of ports is written: they came in, or are the call's own. -/
def Firm (w0 W : World) (v : Value) (l : List UInt8) : Prop := IsArg w0 v l ∨ ∃ B, W.ownsRow B 5 1 v l.length (byteCells l)
theorem Firm.arg {w0 W : World} {v : Value} {l : List UInt8} (h : Firm w0 W v l) (hb : Below w0.heap.size w0 W) : IsArg W v l := by
  rcases h with h | ⟨B, h⟩
  · exact h.below hb
  · exact isArg_of_owns h
theorem Firm.below {w0 W W' : World} {v : Value} {l : List UInt8} (h : Firm w0 W v l) (hb : Below W.heap.size W W') : Firm w0 W' v l := by
  rcases h with h | ⟨B, h⟩
  · exact .inl h
  · exact .inr ⟨B, ownsRow_below h hb⟩
theorem Firm.far {w0 X : World} {v : Value} {l : List UInt8} {r j : Nat} {cs : Array Value} {fr : Nat × Nat} (h : Firm w0 X v l) (hr : X.heap[r]? = some (.cells cs 26 fr)) (x : Value) : Firm w0 (X.setCell ⟨r, j, none⟩ x) v l := by
  rcases h with h | ⟨B, h⟩
  · exact .inl h
  · exact .inr ⟨B, owns_far h hr x⟩
theorem Firm.put4 {w0 X : World} {v : Value} {l : List UInt8} {r : Nat} {a b c d a' b' c' d' : Value} (h : Firm w0 X v l) (hr : X.heap[r]? = some (.cells #[a', b', c', d'] 26 (0, 0))) : Firm w0 (put4 X r a b c d) v l := by
  rcases h with h | ⟨B, h⟩
  · exact .inl h
  · exact .inr ⟨B, put4_owns h hr⟩
/-- What is answered: ports with a firm pool, and a number. -/
def Told (w0 w : World) (L M T : Nat) (l : List UInt8) (F : Int) (e : Ending) (w' : World) : Prop :=
  ∃ r, e = .returned (.tuple #[.agg #[.int .u32 (L : Nat), .int .u32 (M : Nat), .int .u64 (T : Nat), r], .int .i64 F]) ∧ Firm w0 w' r l ∧ Below w.heap.size w w'
theorem Told.mk {w0 w w' : World} {L M T : Nat} {l : List UInt8} {F : Int} {e : Ending} {r : Value} (he : e = .returned (.tuple #[.agg #[.int .u32 (L : Nat), .int .u32 (M : Nat), .int .u64 (T : Nat), r], .int .i64 F])) (h : Firm w0 w' r l) (hb : Below w.heap.size w w') : Told w0 w L M T l F e w' := ⟨r, he, h, hb⟩
theorem Gave.told {w0 w w' : World} {L M T : Nat} {l : List UInt8} {F : Int} {e : Ending} (h : Gave w L M T l F e w') : Told w0 w L M T l F e w' := by
  obtain ⟨r, h1, h2, h3⟩ := h
  exact ⟨r, h1, .inr ⟨_, h2⟩, h3⟩

set_option maxHeartbeats 4000000 in
set_option maxRecDepth 100000 in
theorem refRaise_any (L M T : Nat) (hL : L < 4294967296) (v : Value) (l : List UInt8) (w0 w : World) (hv : IsArg w0 v l) (hw : Below w0.heap.size w0 w) (z : Int) (F : Int) (hF : lineP T l.length z = F) (m : Nat) (hm : raiseP L T l.length z = m) :
    Calls Try.prog 11 #[.agg #[.int .u32 (L : Nat), .int .u32 (M : Nat), .int .u64 (T : Nat), v], .int .i64 z] w (Told w0 w m M T l F) := by
  have HV := Lib.hid hv
  have HW := Lib.hid hw
  have HB := Lib.hid (((Below.refl w.heap.size w).alloc (Nat.le_refl _) (.cells #[.int .u32 (L : Nat), .int .u32 (M : Nat), .int .u64 (T : Nat), v] 26)).alloc (by simp) (.cells #[.int .u32 0, .int .u32 0, .int .u64 0, .slice none 0 0] 26))
  obtain ⟨a, n, c, rfl, hn⟩ := hv.shape3
  have HN := Lib.hid (show n ≤ maxLen by rw [hn]; exact arg_len hv)
  rw [← hn] at hF hm
  have HF := Lib.hid hF
  by_cases h0 : F = 0
  · subst h0
    obtain ⟨k, rfl, hk⟩ : ∃ k : Nat, z = (k : Int) ∧ k ≤ 31 := by
      rcases line_cases T n z with ⟨h, _⟩ | ⟨h, _⟩ | ⟨_, _, _, h1, h2⟩
      · rw [hF] at h; cases h
      · rw [hF] at h; cases h
      · obtain ⟨k, rfl⟩ := Int.eq_ofNat_of_zero_le h1
        exact ⟨k, rfl, by omega⟩
    rw [raiseP, if_pos hF, Int.toNat_natCast] at hm
    have HM := Lib.hid hm
    clear hv hn hF hm hw
    go_enter Try.func11, Try.ntmps11
    go_wp2_with fail
    refine (asked_any _ _ _ _ _ _ HN.out _ _ HF.out _).mono ?_
    rintro e w1 ⟨rfl, hb⟩
    have HB1 := Lib.hid (HB.out.trans (hb.mono (by simp; omega)))
    obtain ⟨hrow, hrow1, hlt⟩ := boxes_rows hb
    have HW0 := Lib.hid hrow
    have HW1 := Lib.hid hrow1
    obtain ⟨c0, c1, c2, c3⟩ := four hrow
    obtain ⟨f0, f1, f2, f3⟩ := free4 hrow
    obtain ⟨d0, d1, d2, d3⟩ := four hrow1
    obtain ⟨g0, g1, g2, g3⟩ := free4 hrow1
    clear hb hrow hrow1
    go_wp2_with fail
    refine (with_any L k hL hk true m (show (if true = true then setB L k else clrB L k) = m by rw [if_pos rfl]; exact HM.out) _).mono ?_
    rintro e w2 ⟨rfl, rfl⟩
    go_wp2
    refine bodyPost_ret (v := .tuple #[.agg #[.int .u32 (m : Nat), .int .u32 (M : Nat), .int .u64 (T : Nat), .slice a n c], .int .i64 0]) (by simp [results, Try.results11, go_sem, d0, d1, d2, d3]) rfl (Told.mk rfl (.inl HV.out) (put4_below (HB1.out.setCell (by simp) _) (by simp)))
  · obtain rfl : m = L := by rw [← hm, raiseP, if_neg (by rw [hF]; exact h0)]
    clear hv hn hm hF hw
    go_enter Try.func11, Try.ntmps11
    go_wp2_with fail
    refine (asked_any _ _ _ _ _ _ HN.out _ _ HF.out _).mono ?_
    rintro e w1 ⟨rfl, hb⟩
    have HB1 := Lib.hid (HB.out.trans (hb.mono (by simp; omega)))
    obtain ⟨hrow, hrow1, hlt⟩ := boxes_rows hb
    have HW0 := Lib.hid hrow
    have HW1 := Lib.hid hrow1
    obtain ⟨c0, c1, c2, c3⟩ := four hrow
    obtain ⟨f0, f1, f2, f3⟩ := free4 hrow
    obtain ⟨d0, d1, d2, d3⟩ := four hrow1
    obtain ⟨g0, g1, g2, g3⟩ := free4 hrow1
    clear hb hrow hrow1
    go_wp2
    refine bodyPost_ret (v := .tuple #[.agg #[.int .u32 (m : Nat), .int .u32 (M : Nat), .int .u64 (T : Nat), .slice a n c], .int .i64 F]) (by simp [results, Try.results11, go_sem, d0, d1, d2, d3]) rfl (Told.mk rfl (.inl HV.out) (put4_below HB1.out (by simp)))

set_option maxHeartbeats 4000000 in
set_option maxRecDepth 100000 in
theorem refDone_any (L M T : Nat) (hL : L < 4294967296) (v : Value) (l : List UInt8) (w0 w : World) (hv : IsArg w0 v l) (hw : Below w0.heap.size w0 w) (z : Int) (F : Int) (hF : lineP T l.length z = F) (m : Nat) (hm : doneP L T l.length z = m) :
    Calls Try.prog 15 #[.agg #[.int .u32 (L : Nat), .int .u32 (M : Nat), .int .u64 (T : Nat), v], .int .i64 z] w (Told w0 w m M T l F) := by
  have HV := Lib.hid hv
  have HW := Lib.hid hw
  have HB := Lib.hid (((Below.refl w.heap.size w).alloc (Nat.le_refl _) (.cells #[.int .u32 (L : Nat), .int .u32 (M : Nat), .int .u64 (T : Nat), v] 26)).alloc (by simp) (.cells #[.int .u32 0, .int .u32 0, .int .u64 0, .slice none 0 0] 26))
  obtain ⟨a, n, c, rfl, hn⟩ := hv.shape3
  have HN := Lib.hid (show n ≤ maxLen by rw [hn]; exact arg_len hv)
  rw [← hn] at hF hm
  have HF := Lib.hid hF
  by_cases h0 : F = 0
  · subst h0
    obtain ⟨k, rfl, hk⟩ : ∃ k : Nat, z = (k : Int) ∧ k ≤ 31 := by
      rcases line_cases T n z with ⟨h, _⟩ | ⟨h, _⟩ | ⟨_, _, _, h1, h2⟩
      · rw [hF] at h; cases h
      · rw [hF] at h; cases h
      · obtain ⟨k, rfl⟩ := Int.eq_ofNat_of_zero_le h1
        exact ⟨k, rfl, by omega⟩
    rw [doneP, if_pos hF, Int.toNat_natCast] at hm
    have HM := Lib.hid hm
    clear hv hn hF hm hw
    go_enter Try.func15, Try.ntmps15
    go_wp2_with fail
    refine (asked_any _ _ _ _ _ _ HN.out _ _ HF.out _).mono ?_
    rintro e w1 ⟨rfl, hb⟩
    have HB1 := Lib.hid (HB.out.trans (hb.mono (by simp; omega)))
    obtain ⟨hrow, hrow1, hlt⟩ := boxes_rows hb
    have HW0 := Lib.hid hrow
    have HW1 := Lib.hid hrow1
    obtain ⟨c0, c1, c2, c3⟩ := four hrow
    obtain ⟨f0, f1, f2, f3⟩ := free4 hrow
    obtain ⟨d0, d1, d2, d3⟩ := four hrow1
    obtain ⟨g0, g1, g2, g3⟩ := free4 hrow1
    clear hb hrow hrow1
    go_wp2_with fail
    refine (with_any L k hL hk false m (show (if false = true then setB L k else clrB L k) = m by rw [if_neg (by decide)]; exact HM.out) _).mono ?_
    rintro e w2 ⟨rfl, rfl⟩
    go_wp2
    refine bodyPost_ret (v := .tuple #[.agg #[.int .u32 (m : Nat), .int .u32 (M : Nat), .int .u64 (T : Nat), .slice a n c], .int .i64 0]) (by simp [results, Try.results15, go_sem, d0, d1, d2, d3]) rfl (Told.mk rfl (.inl HV.out) (put4_below (HB1.out.setCell (by simp) _) (by simp)))
  · obtain rfl : m = L := by rw [← hm, doneP, if_neg (by rw [hF]; exact h0)]
    clear hv hn hm hF hw
    go_enter Try.func15, Try.ntmps15
    go_wp2_with fail
    refine (asked_any _ _ _ _ _ _ HN.out _ _ HF.out _).mono ?_
    rintro e w1 ⟨rfl, hb⟩
    have HB1 := Lib.hid (HB.out.trans (hb.mono (by simp; omega)))
    obtain ⟨hrow, hrow1, hlt⟩ := boxes_rows hb
    have HW0 := Lib.hid hrow
    have HW1 := Lib.hid hrow1
    obtain ⟨c0, c1, c2, c3⟩ := four hrow
    obtain ⟨f0, f1, f2, f3⟩ := free4 hrow
    obtain ⟨d0, d1, d2, d3⟩ := four hrow1
    obtain ⟨g0, g1, g2, g3⟩ := free4 hrow1
    clear hb hrow hrow1
    go_wp2
    refine bodyPost_ret (v := .tuple #[.agg #[.int .u32 (m : Nat), .int .u32 (M : Nat), .int .u64 (T : Nat), .slice a n c], .int .i64 F]) (by simp [results, Try.results15, go_sem, d0, d1, d2, d3]) rfl (Told.mk rfl (.inl HV.out) (put4_below HB1.out (by simp)))

set_option maxHeartbeats 4000000 in
set_option maxRecDepth 100000 in
theorem refHear_any (L M T : Nat) (hM : M < 4294967296) (v : Value) (l : List UInt8) (w0 w : World) (hv : IsArg w0 v l) (hw : Below w0.heap.size w0 w) (z : Int) (on : Bool) (F : Int) (hF : lineP T l.length z = F) (m : Nat) (hm : hearP M T l.length z on = m) :
    Calls Try.prog 14 #[.agg #[.int .u32 (L : Nat), .int .u32 (M : Nat), .int .u64 (T : Nat), v], .int .i64 z, .bool on] w (Told w0 w L m T l F) := by
  have HV := Lib.hid hv
  have HW := Lib.hid hw
  have HB := Lib.hid (((Below.refl w.heap.size w).alloc (Nat.le_refl _) (.cells #[.int .u32 (L : Nat), .int .u32 (M : Nat), .int .u64 (T : Nat), v] 26)).alloc (by simp) (.cells #[.int .u32 0, .int .u32 0, .int .u64 0, .slice none 0 0] 26))
  obtain ⟨a, n, c, rfl, hn⟩ := hv.shape3
  have HN := Lib.hid (show n ≤ maxLen by rw [hn]; exact arg_len hv)
  rw [← hn] at hF hm
  have HF := Lib.hid hF
  by_cases h0 : F = 0
  · subst h0
    obtain ⟨k, rfl, hk⟩ : ∃ k : Nat, z = (k : Int) ∧ k ≤ 31 := by
      rcases line_cases T n z with ⟨h, _⟩ | ⟨h, _⟩ | ⟨_, _, _, h1, h2⟩
      · rw [hF] at h; cases h
      · rw [hF] at h; cases h
      · obtain ⟨k, rfl⟩ := Int.eq_ofNat_of_zero_le h1
        exact ⟨k, rfl, by omega⟩
    rw [hearP, if_pos hF, Int.toNat_natCast] at hm
    have HM := Lib.hid hm
    clear hv hn hF hm hw
    go_enter Try.func14, Try.ntmps14
    go_wp2_with fail
    refine (asked_any _ _ _ _ _ _ HN.out _ _ HF.out _).mono ?_
    rintro e w1 ⟨rfl, hb⟩
    have HB1 := Lib.hid (HB.out.trans (hb.mono (by simp; omega)))
    obtain ⟨hrow, hrow1, hlt⟩ := boxes_rows hb
    have HW0 := Lib.hid hrow
    have HW1 := Lib.hid hrow1
    obtain ⟨c0, c1, c2, c3⟩ := four hrow
    obtain ⟨f0, f1, f2, f3⟩ := free4 hrow
    obtain ⟨d0, d1, d2, d3⟩ := four hrow1
    obtain ⟨g0, g1, g2, g3⟩ := free4 hrow1
    clear hb hrow hrow1
    go_wp2_with fail
    refine (with_any M k hM hk on m HM.out _).mono ?_
    rintro e w2 ⟨rfl, rfl⟩
    go_wp2
    refine bodyPost_ret (v := .tuple #[.agg #[.int .u32 (L : Nat), .int .u32 (m : Nat), .int .u64 (T : Nat), .slice a n c], .int .i64 0]) (by simp [results, Try.results14, go_sem, d0, d1, d2, d3]) rfl (Told.mk rfl (.inl HV.out) (put4_below (HB1.out.setCell (by simp) _) (by simp)))
  · obtain rfl : m = M := by rw [← hm, hearP, if_neg (by rw [hF]; exact h0)]
    clear hv hn hm hF hw
    go_enter Try.func14, Try.ntmps14
    go_wp2_with fail
    refine (asked_any _ _ _ _ _ _ HN.out _ _ HF.out _).mono ?_
    rintro e w1 ⟨rfl, hb⟩
    have HB1 := Lib.hid (HB.out.trans (hb.mono (by simp; omega)))
    obtain ⟨hrow, hrow1, hlt⟩ := boxes_rows hb
    have HW0 := Lib.hid hrow
    have HW1 := Lib.hid hrow1
    obtain ⟨c0, c1, c2, c3⟩ := four hrow
    obtain ⟨f0, f1, f2, f3⟩ := free4 hrow
    obtain ⟨d0, d1, d2, d3⟩ := four hrow1
    obtain ⟨g0, g1, g2, g3⟩ := free4 hrow1
    clear hb hrow hrow1
    go_wp2
    refine bodyPost_ret (v := .tuple #[.agg #[.int .u32 (L : Nat), .int .u32 (m : Nat), .int .u64 (T : Nat), .slice a n c], .int .i64 F]) (by simp [results, Try.results14, go_sem, d0, d1, d2, d3]) rfl (Told.mk rfl (.inl HV.out) (put4_below HB1.out (by simp)))

set_option maxHeartbeats 4000000 in
set_option maxRecDepth 100000 in
theorem refTick_any (L M T : Nat) (v : Value) (l : List UInt8) (w0 w : World) (hv : IsArg w0 v l) (hw : Below w0.heap.size w0 w) (t : Nat) (F : Int) (hF : tickP T l.length t = F) (m : Nat) (hm : tickT T l.length t = m) :
    Calls Try.prog 17 #[.agg #[.int .u32 (L : Nat), .int .u32 (M : Nat), .int .u64 (T : Nat), v], .int .u64 (t : Nat)] w (Told w0 w L M m l F) := by
  have HV := Lib.hid hv
  have HW := Lib.hid hw
  have HB := Lib.hid (((Below.refl w.heap.size w).alloc (Nat.le_refl _) (.cells #[.int .u32 (L : Nat), .int .u32 (M : Nat), .int .u64 (T : Nat), v] 26)).alloc (by simp) (.cells #[.int .u32 0, .int .u32 0, .int .u64 0, .slice none 0 0] 26))
  obtain ⟨a, n, c, rfl, hn⟩ := hv.shape3
  have HN := Lib.hid (show n ≤ maxLen by rw [hn]; exact arg_len hv)
  rw [← hn] at hF hm
  have HF := Lib.hid hF
  rcases tick_cases T n t with ⟨h, hk, _⟩ | ⟨h, hk, _, h1⟩ | ⟨h, hk, _, h1, h2⟩ | ⟨h, hk, _, h1, h2⟩
  · rw [h] at hF
    subst hF
    obtain rfl : m = T := by rw [← hm, tickT, if_neg (by rw [h]; decide)]
    have HK := Lib.hid hk
    clear hv hn hm hw h hk
    go_enter Try.func17, Try.ntmps17
    go_wp2_with fail
    refine (refCheck_any _ _ _ _ _ _ HN.out _ HK.out _).mono ?_
    rintro e w1 ⟨rfl, hb⟩
    have HB1 := Lib.hid (HB.out.trans (hb.mono (by simp; omega)))
    obtain ⟨hrow, hrow1, hlt⟩ := boxes_rows hb
    have HW0 := Lib.hid hrow
    have HW1 := Lib.hid hrow1
    obtain ⟨c0, c1, c2, c3⟩ := four hrow
    obtain ⟨f0, f1, f2, f3⟩ := free4 hrow
    obtain ⟨d0, d1, d2, d3⟩ := four hrow1
    obtain ⟨g0, g1, g2, g3⟩ := free4 hrow1
    clear hb hrow hrow1
    go_wp2
    refine bodyPost_ret (v := .tuple #[.agg #[.int .u32 (L : Nat), .int .u32 (M : Nat), .int .u64 (m : Nat), .slice a n c], .int .i64 3]) (by simp [results, Try.results17, go_sem, d0, d1, d2, d3]) rfl (Told.mk rfl (.inl HV.out) (put4_below HB1.out (by simp)))
  · rw [h] at hF
    subst hF
    obtain rfl : m = T := by rw [← hm, tickT, if_neg (by rw [h]; decide)]
    have HK := Lib.hid hk
    clear hv hn hm hw h hk
    go_enter Try.func17, Try.ntmps17
    go_wp2_with fail
    refine (refCheck_any _ _ _ _ _ _ HN.out _ HK.out _).mono ?_
    rintro e w1 ⟨rfl, hb⟩
    have HB1 := Lib.hid (HB.out.trans (hb.mono (by simp; omega)))
    obtain ⟨hrow, hrow1, hlt⟩ := boxes_rows hb
    have HW0 := Lib.hid hrow
    have HW1 := Lib.hid hrow1
    obtain ⟨c0, c1, c2, c3⟩ := four hrow
    obtain ⟨f0, f1, f2, f3⟩ := free4 hrow
    obtain ⟨d0, d1, d2, d3⟩ := four hrow1
    obtain ⟨g0, g1, g2, g3⟩ := free4 hrow1
    clear hb hrow hrow1
    go_wp2
    refine bodyPost_ret (v := .tuple #[.agg #[.int .u32 (L : Nat), .int .u32 (M : Nat), .int .u64 (m : Nat), .slice a n c], .int .i64 2]) (by simp [results, Try.results17, go_sem, d0, d1, d2, d3]) rfl (Told.mk rfl (.inl HV.out) (put4_below HB1.out (by simp)))
  · rw [h] at hF
    subst hF
    obtain rfl : m = T := by rw [← hm, tickT, if_neg (by rw [h]; decide)]
    have HK := Lib.hid hk
    clear hv hn hm hw h hk
    go_enter Try.func17, Try.ntmps17
    go_wp2_with fail
    refine (refCheck_any _ _ _ _ _ _ HN.out _ HK.out _).mono ?_
    rintro e w1 ⟨rfl, hb⟩
    have HB1 := Lib.hid (HB.out.trans (hb.mono (by simp; omega)))
    obtain ⟨hrow, hrow1, hlt⟩ := boxes_rows hb
    have HW0 := Lib.hid hrow
    have HW1 := Lib.hid hrow1
    obtain ⟨c0, c1, c2, c3⟩ := four hrow
    obtain ⟨f0, f1, f2, f3⟩ := free4 hrow
    obtain ⟨d0, d1, d2, d3⟩ := four hrow1
    obtain ⟨g0, g1, g2, g3⟩ := free4 hrow1
    clear hb hrow hrow1
    go_wp2
    refine bodyPost_ret (v := .tuple #[.agg #[.int .u32 (L : Nat), .int .u32 (M : Nat), .int .u64 (m : Nat), .slice a n c], .int .i64 8]) (by simp [results, Try.results17, go_sem, d0, d1, d2, d3]) rfl (Told.mk rfl (.inl HV.out) (put4_below HB1.out (by simp)))
  · rw [h] at hF
    subst hF
    obtain rfl : m = t := by rw [← hm, tickT, if_pos h]
    have HK := Lib.hid hk
    clear hv hn hm hw h hk
    go_enter Try.func17, Try.ntmps17
    go_wp2_with fail
    refine (refCheck_any _ _ _ _ _ _ HN.out _ HK.out _).mono ?_
    rintro e w1 ⟨rfl, hb⟩
    have HB1 := Lib.hid (HB.out.trans (hb.mono (by simp; omega)))
    obtain ⟨hrow, hrow1, hlt⟩ := boxes_rows hb
    have HW0 := Lib.hid hrow
    have HW1 := Lib.hid hrow1
    obtain ⟨c0, c1, c2, c3⟩ := four hrow
    obtain ⟨f0, f1, f2, f3⟩ := free4 hrow
    obtain ⟨d0, d1, d2, d3⟩ := four hrow1
    obtain ⟨g0, g1, g2, g3⟩ := free4 hrow1
    clear hb hrow hrow1
    go_wp2
    refine bodyPost_ret (v := .tuple #[.agg #[.int .u32 (L : Nat), .int .u32 (M : Nat), .int .u64 (m : Nat), .slice a n c], .int .i64 0]) (by simp [results, Try.results17, go_sem, d0, d1, d2, d3]) rfl (Told.mk rfl (.inl HV.out) (put4_below (HB1.out.setCell (by simp) _) (by simp)))

theorem ref_empty {w : World} : (w.alloc (.cells #[] 5)).ownsRow w.heap.size 5 1 (.slice (some ⟨w.heap.size, 0, none⟩) 0 0) 0 [] := owns_empty (heap_alloc_new w _) (by decide) rfl _ (Nat.le_refl _)
set_option maxHeartbeats 4000000 in
set_option maxRecDepth 100000 in
theorem refFill_any (L M T : Nat) (v : Value) (l : List UInt8) (w0 w : World) (hv : IsArg w0 v l) (hw : Below w0.heap.size w0 w) (hl : l.length ≤ 140737488355328) (u : Value) (k : List UInt8) (hu : IsArg w u k) (F : Int) (hF : fillP T l.length k.length = F) (g : List UInt8) (hm : fillL T l k = g) :
    Calls Try.prog 19 #[.agg #[.int .u32 (L : Nat), .int .u32 (M : Nat), .int .u64 (T : Nat), v], u] w (Told w0 w L M T g F) := by
  have HU := Lib.hid hu
  have HV := Lib.hid hv
  have HW := Lib.hid hw
  have HB := Lib.hid (((Below.refl w.heap.size w).alloc (Nat.le_refl _) (.cells #[.int .u32 (L : Nat), .int .u32 (M : Nat), .int .u64 (T : Nat), v] 26)).alloc (by simp) (.cells #[.int .u32 0, .int .u32 0, .int .u64 0, .slice none 0 0] 26))
  obtain ⟨a, n, c, rfl, hn⟩ := hv.shape3
  have HN := Lib.hid (show n ≤ maxLen by rw [hn]; exact arg_len hv)
  obtain ⟨ua, un, uc, rfl, hun⟩ := hu.shape3
  rw [← hn, ← hun] at hF
  rw [← hn] at hl
  rcases fill_cases T n un with ⟨h, hk, _⟩ | ⟨h, hk, _, h1⟩ | ⟨h, hk, _, h1⟩
  · rw [h] at hF
    subst hF
    have HK := Lib.hid hk
    obtain rfl : l = g := by rw [← hm]; exact (fillL_other (by rw [← hn, ← hun, h]; decide)).symm
    clear hv hu hn hun hm hw h hk
    skip
    go_enter Try.func19, Try.ntmps19
    go_wp2_with fail
    refine (refCheck_any _ _ _ _ _ _ HN.out _ HK.out _).mono ?_
    rintro e w1 ⟨rfl, hb⟩
    have HB1 := Lib.hid (HB.out.trans (hb.mono (by simp; omega)))
    obtain ⟨hrow, hrow1, hlt⟩ := boxes_rows hb
    have HW0 := Lib.hid hrow
    have HW1 := Lib.hid hrow1
    obtain ⟨c0, c1, c2, c3⟩ := four hrow
    obtain ⟨f0, f1, f2, f3⟩ := free4 hrow
    obtain ⟨d0, d1, d2, d3⟩ := four hrow1
    obtain ⟨g0, g1, g2, g3⟩ := free4 hrow1
    clear hb hrow hrow1
    go_wp2
    refine bodyPost_ret (v := .tuple #[.agg #[.int .u32 (L : Nat), .int .u32 (M : Nat), .int .u64 (T : Nat), .slice a n c], .int .i64 3]) (by simp [results, Try.results19, go_sem, d0, d1, d2, d3]) rfl (Told.mk rfl (.inl HV.out) (put4_below HB1.out (by simp)))
  · rw [h] at hF
    subst hF
    have HK := Lib.hid hk
    obtain rfl : l = g := by rw [← hm]; exact (fillL_other (by rw [← hn, ← hun, h]; decide)).symm
    clear hv hu hn hun hm hw h hk
    have hdd : decide ((64 : Int) - (n : Int) < (un : Int)) = true := decide_eq_true (by omega)
    go_enter Try.func19, Try.ntmps19
    go_wp2_with fail
    refine (refCheck_any _ _ _ _ _ _ HN.out _ HK.out _).mono ?_
    rintro e w1 ⟨rfl, hb⟩
    have HB1 := Lib.hid (HB.out.trans (hb.mono (by simp; omega)))
    obtain ⟨hrow, hrow1, hlt⟩ := boxes_rows hb
    have HW0 := Lib.hid hrow
    have HW1 := Lib.hid hrow1
    obtain ⟨c0, c1, c2, c3⟩ := four hrow
    obtain ⟨f0, f1, f2, f3⟩ := free4 hrow
    obtain ⟨d0, d1, d2, d3⟩ := four hrow1
    obtain ⟨g0, g1, g2, g3⟩ := free4 hrow1
    clear hb hrow hrow1
    go_wp2
    refine bodyPost_ret (v := .tuple #[.agg #[.int .u32 (L : Nat), .int .u32 (M : Nat), .int .u64 (T : Nat), .slice a n c], .int .i64 4]) (by simp [results, Try.results19, go_sem, d0, d1, d2, d3]) rfl (Told.mk rfl (.inl HV.out) (put4_below HB1.out (by simp)))
  · rw [h] at hF
    subst hF
    have HK := Lib.hid hk
    have HG := Lib.hid (show g = l ++ k by rw [← hm]; exact fillL_zero (by rw [← hn, ← hun, h]))
    have HNL := Lib.hid hn
    have HUL := Lib.hid hun
    have hdd : decide ((64 : Int) - (n : Int) < (un : Int)) = false := decide_eq_false (by omega)
    obtain ⟨i0, hi, hz0, hz1, hz2⟩ := info_parts info8
    have HI := Lib.hid hi
    clear hv hu hn hun hm hw h hk hi
    go_enter Try.func19, Try.ntmps19
    go_wp2_with fail
    refine (refCheck_any _ _ _ _ _ _ HN.out _ HK.out _).mono ?_
    rintro e w1 ⟨rfl, hb⟩
    have HB1 := Lib.hid (HB.out.trans (hb.mono (by simp; omega)))
    obtain ⟨hrow, hrow1, hlt⟩ := boxes_rows hb
    have HR0 := Lib.hid hrow
    have HR1 := Lib.hid hrow1
    obtain ⟨c0, c1, c2, c3⟩ := four hrow
    have hba : Below w1.heap.size w1 (w1.alloc (.cells #[] 5)) := (Below.refl _ _).alloc (Nat.le_refl _) _
    have HBA := Lib.hid hba
    have hcc := kept c3 hba
    have HP := Lib.hid (((HV.out.below HW.out).below HB1.out).below hba)
    have HUA := Lib.hid ((HU.out.below HB1.out).below hba)
    clear hb hrow hrow1 hba
    have HL1 := Lib.hid (show 0 + l.length ≤ 140737488355328 by rw [← HNL.out]; omega)
    have HS1 := Lib.hid (show w1.heap.size ≤ (w1.alloc (.cells #[] 5)).heap.size by simp)
    go_wp2_with (at_builtin; refine wpList_append_isArg _ rfl _ _ 24 rfl w1.heap.size 5 i0 (.int .u8 0) Try.underlying24 HI.out hz0 hz1 hz2 rfl _ _ _ rfl ref_empty _ l rfl HP.out.2 HL1.out HS1.out ?_)
    intro v1 w2 hown hgrow
    have hb2 : Below w1.heap.size w1 w2 := HBA.out.grown hgrow (by simp) (fun k hk => by cases hk; exact Nat.le_refl _)
    have HO1 := Lib.hid (show w2.ownsRow w1.heap.size 5 1 v1 l.length (byteCells l) by simpa using hown)
    have HL2 := Lib.hid (show l.length + k.length ≤ 140737488355328 by rw [← HNL.out, ← HUL.out]; omega)
    have HS2 := Lib.hid hb2.size
    have HB2 := Lib.hid hb2
    have HU2 := Lib.hid ((HU.out.below HB1.out).below hb2)
    clear hown hgrow hcc c0 c1 c2 c3 hdd
    go_wp2_with (at_builtin; refine wpList_append_isArg _ rfl _ _ 24 rfl w1.heap.size 5 i0 (.int .u8 0) Try.underlying24 HI.out hz0 hz1 hz2 rfl _ _ _ rfl HO1.out _ k rfl HU2.out.2 HL2.out HS2.out ?_)
    intro v2 w3 hown hgrow
    have hb3 : Below w1.heap.size w1 w3 := HB2.out.grown hgrow HS2.out (fun k hk => (HO1.out.lt k hk).1)
    have HO2 := Lib.hid (show w3.ownsRow w1.heap.size 5 1 v2 g.length (byteCells g) by
      rw [HG.out, List.length_append]
      simpa [byteCells] using hown)
    have HR3 := Lib.hid (row_keep HR0.out hb3)
    have HR4 := Lib.hid (row_keep HR1.out hb3)
    have HB3 := Lib.hid (HB1.out.trans (hb3.mono HB1.out.size))
    have hlt3 : w.heap.size + 1 < w3.heap.size := Nat.lt_of_lt_of_le hlt hb3.size
    obtain ⟨ra, rn, rc, rfl, hrn⟩ := (isArg_of_owns HO2.out).shape3
    clear hown hgrow hb2 hb3 hrn hlt
    obtain ⟨c0, c1, c2, c3⟩ := four HR3.out
    obtain ⟨f0, f1, f2, f3⟩ := free4 HR3.out
    obtain ⟨d0, d1, d2, d3⟩ := four HR4.out
    obtain ⟨g0, g1, g2, g3⟩ := free4 HR4.out
    go_wp2
    refine bodyPost_ret (v := .tuple #[.agg #[.int .u32 (L : Nat), .int .u32 (M : Nat), .int .u64 (T : Nat), .slice ra rn rc], .int .i64 0]) (by simp [results, Try.results19, go_sem, d0, d1, d2, d3]) rfl (Told.mk rfl (.inr ⟨_, put4_owns (owns_far HO2.out HR3.out _) (row_far HR4.out _ _ (by simp))⟩) (put4_below (HB3.out.setCell (by simp) _) (by simp)))

/-- What is answered by Draw: two rows of firm bytes. -/
def Told2 (w0 w : World) (L M T : Nat) (l k : List UInt8) (F : Int) (e : Ending) (w' : World) : Prop :=
  ∃ r s, e = .returned (.tuple #[.agg #[.int .u32 (L : Nat), .int .u32 (M : Nat), .int .u64 (T : Nat), r], s, .int .i64 F]) ∧ Firm w0 w' r l ∧ Firm w0 w' s k ∧ Below w.heap.size w w'
theorem Told2.mk {w0 w w' : World} {L M T : Nat} {l k : List UInt8} {F : Int} {e : Ending} {r s : Value} (he : e = .returned (.tuple #[.agg #[.int .u32 (L : Nat), .int .u32 (M : Nat), .int .u64 (T : Nat), r], s, .int .i64 F])) (h : Firm w0 w' r l) (h2 : Firm w0 w' s k) (hb : Below w.heap.size w w') : Told2 w0 w L M T l k F e w' := ⟨r, s, he, h, h2, hb⟩
theorem Drew.told {w0 w w' : World} {L M T : Nat} {l k : List UInt8} {F : Int} {e : Ending} (h : Drew w L M T l k F e w') : Told2 w0 w L M T l k F e w' := by
  obtain ⟨r, s, h1, h2, h3, h4⟩ := h
  exact ⟨r, s, h1, .inr ⟨_, h2⟩, .inr ⟨_, h3⟩, h4⟩
set_option maxHeartbeats 4000000 in
set_option maxRecDepth 100000 in
theorem refDraw_any (L M T : Nat) (v : Value) (l : List UInt8) (w0 w : World) (hv : IsArg w0 v l) (hw : Below w0.heap.size w0 w) (z : Int) (F : Int) (hF : drawP T l.length z = F) (g k : List UInt8) (hg : leftL T l z = g) (hm : takenL T l z = k) :
    Calls Try.prog 21 #[.agg #[.int .u32 (L : Nat), .int .u32 (M : Nat), .int .u64 (T : Nat), v], .int .i64 z] w (Told2 w0 w L M T g k F) := by
  have HV := Lib.hid hv
  have HW := Lib.hid hw
  have HB := Lib.hid (((Below.refl w.heap.size w).alloc (Nat.le_refl _) (.cells #[.int .u32 (L : Nat), .int .u32 (M : Nat), .int .u64 (T : Nat), v] 26)).alloc (by simp) (.cells #[.int .u32 0, .int .u32 0, .int .u64 0, .slice none 0 0] 26))
  obtain ⟨a, c, rfl, hc⟩ := hv.shapeC
  obtain ⟨n, hn⟩ : ∃ n, n = l.length := ⟨_, rfl⟩
  have HN := Lib.hid (show n ≤ maxLen by rw [hn]; exact arg_len hv)
  rw [← hn] at hF hc HV HB ⊢
  rcases draw_cases T n z with ⟨h, hk, _⟩ | ⟨h, hk, _, h1⟩ | ⟨h, hk, _, h1, h2⟩ | ⟨h, hk, _, h1, h2⟩
  · rw [h] at hF
    subst hF
    obtain rfl : g = l := by rw [← hg]; exact left_other (by rw [← hn, h]; decide)
    obtain rfl : k = [] := by rw [← hm]; exact taken_other (by rw [← hn, h]; decide)
    have HK := Lib.hid hk
    clear hv hn hg hm hw h hk hc
    go_enter Try.func21, Try.ntmps21
    go_wp2_with fail
    refine (refCheck_any _ _ _ _ _ _ HN.out _ HK.out _).mono ?_
    rintro e w1 ⟨rfl, hb⟩
    have HB1 := Lib.hid (HB.out.trans (hb.mono (by simp; omega)))
    obtain ⟨hrow, hrow1, hlt⟩ := boxes_rows hb
    have HW0 := Lib.hid hrow
    have HW1 := Lib.hid hrow1
    obtain ⟨c0, c1, c2, c3⟩ := four hrow
    obtain ⟨f0, f1, f2, f3⟩ := free4 hrow
    obtain ⟨d0, d1, d2, d3⟩ := four hrow1
    obtain ⟨g0, g1, g2, g3⟩ := free4 hrow1
    clear hb hrow hrow1
    go_wp2
    refine bodyPost_ret (v := .tuple #[.agg #[.int .u32 (L : Nat), .int .u32 (M : Nat), .int .u64 (T : Nat), .slice a n c], .slice none 0 0, .int .i64 3]) (by simp [results, Try.results21, go_sem, d0, d1, d2, d3]) rfl (Told2.mk rfl (.inl HV.out) (.inl (isArg_nil _)) (put4_below HB1.out (by simp)))
  · rw [h] at hF
    subst hF
    obtain rfl : g = l := by rw [← hg]; exact left_other (by rw [← hn, h]; decide)
    obtain rfl : k = [] := by rw [← hm]; exact taken_other (by rw [← hn, h]; decide)
    have HK := Lib.hid hk
    clear hv hn hg hm hw h hk hc
    go_enter Try.func21, Try.ntmps21
    go_wp2_with fail
    refine (refCheck_any _ _ _ _ _ _ HN.out _ HK.out _).mono ?_
    rintro e w1 ⟨rfl, hb⟩
    have HB1 := Lib.hid (HB.out.trans (hb.mono (by simp; omega)))
    obtain ⟨hrow, hrow1, hlt⟩ := boxes_rows hb
    have HW0 := Lib.hid hrow
    have HW1 := Lib.hid hrow1
    obtain ⟨c0, c1, c2, c3⟩ := four hrow
    obtain ⟨f0, f1, f2, f3⟩ := free4 hrow
    obtain ⟨d0, d1, d2, d3⟩ := four hrow1
    obtain ⟨g0, g1, g2, g3⟩ := free4 hrow1
    clear hb hrow hrow1
    go_wp2
    refine bodyPost_ret (v := .tuple #[.agg #[.int .u32 (L : Nat), .int .u32 (M : Nat), .int .u64 (T : Nat), .slice a n c], .slice none 0 0, .int .i64 2]) (by simp [results, Try.results21, go_sem, d0, d1, d2, d3]) rfl (Told2.mk rfl (.inl HV.out) (.inl (isArg_nil _)) (put4_below HB1.out (by simp)))
  · rw [h] at hF
    subst hF
    obtain rfl : g = l := by rw [← hg]; exact left_other (by rw [← hn, h]; decide)
    obtain rfl : k = [] := by rw [← hm]; exact taken_other (by rw [← hn, h]; decide)
    have HK := Lib.hid hk
    clear hv hn hg hm hw h hk hc
    go_enter Try.func21, Try.ntmps21
    go_wp2_with fail
    refine (refCheck_any _ _ _ _ _ _ HN.out _ HK.out _).mono ?_
    rintro e w1 ⟨rfl, hb⟩
    have HB1 := Lib.hid (HB.out.trans (hb.mono (by simp; omega)))
    obtain ⟨hrow, hrow1, hlt⟩ := boxes_rows hb
    have HW0 := Lib.hid hrow
    have HW1 := Lib.hid hrow1
    obtain ⟨c0, c1, c2, c3⟩ := four hrow
    obtain ⟨f0, f1, f2, f3⟩ := free4 hrow
    obtain ⟨d0, d1, d2, d3⟩ := four hrow1
    obtain ⟨g0, g1, g2, g3⟩ := free4 hrow1
    clear hb hrow hrow1
    go_wp2
    refine bodyPost_ret (v := .tuple #[.agg #[.int .u32 (L : Nat), .int .u32 (M : Nat), .int .u64 (T : Nat), .slice a n c], .slice none 0 0, .int .i64 7]) (by simp [results, Try.results21, go_sem, d0, d1, d2, d3]) rfl (Told2.mk rfl (.inl HV.out) (.inl (isArg_nil _)) (put4_below HB1.out (by simp)))
  · rw [h] at hF
    subst hF
    obtain ⟨j, rfl⟩ := Int.eq_ofNat_of_zero_le h1
    have hj : j ≤ n := by omega
    rw [left_zero (by rw [← hn]; exact h), Int.toNat_natCast] at hg
    rw [taken_zero (by rw [← hn]; exact h), Int.toNat_natCast] at hm
    have s1 := cut_to a n c j (by omega)
    have s2 := cut_from a n c j hj
    have P1 := Lib.hid (show IsArg w0 (sliced a 0 j c 1) k by
      have h := HV.out.part 0 j c (Nat.zero_le _) (by rw [← hn]; exact hj) (by omega) (Nat.le_refl _)
      rw [Nat.sub_zero, List.drop_zero, hm] at h
      exact h)
    have P2 := Lib.hid (show IsArg w0 (sliced a j n c 1) g by
      have h := HV.out.part j n c hj (by rw [hn]; exact Nat.le_refl _) hc (Nat.le_refl _)
      rw [List.take_of_length_le (by rw [List.length_drop, ← hn]; exact Nat.le_refl _), hg] at h
      exact h)
    obtain ⟨x1, y1, z1, e1⟩ : ∃ x y z, sliced a 0 j c 1 = .slice x y z := ⟨_, _, _, rfl⟩
    obtain ⟨x2, y2, z2, e2⟩ : ∃ x y z, sliced a j n c 1 = .slice x y z := ⟨_, _, _, rfl⟩
    rw [e1] at s1 P1
    rw [e2] at s2 P2
    have HK := Lib.hid hk
    clear hv hn hg hm hw h hk hc e1 e2
    go_enter Try.func21, Try.ntmps21
    go_wp2_with fail
    refine (refCheck_any _ _ _ _ _ _ HN.out _ HK.out _).mono ?_
    rintro e w1 ⟨rfl, hb⟩
    have HB1 := Lib.hid (HB.out.trans (hb.mono (by simp; omega)))
    obtain ⟨hrow, hrow1, hlt⟩ := boxes_rows hb
    have HW0 := Lib.hid hrow
    have HW1 := Lib.hid hrow1
    obtain ⟨c0, c1, c2, c3⟩ := four hrow
    obtain ⟨f0, f1, f2, f3⟩ := free4 hrow
    obtain ⟨d0, d1, d2, d3⟩ := four hrow1
    obtain ⟨g0, g1, g2, g3⟩ := free4 hrow1
    clear hb hrow hrow1
    go_wp2
    refine bodyPost_ret (v := .tuple #[.agg #[.int .u32 (L : Nat), .int .u32 (M : Nat), .int .u64 (T : Nat), .slice x2 y2 z2], .slice x1 y1 z1, .int .i64 0]) (by simp [results, Try.results21, go_sem, d0, d1, d2, d3]) rfl (Told2.mk rfl (.inl P2.out) (.inl P1.out) (put4_below (HB1.out.setCell (by simp) _) (by simp)))

set_option maxHeartbeats 1000000 in
set_option maxRecDepth 100000 in
/-- Two ports that are the same. -/
theorem alike_any (L M T : Nat) (u v : Value) (l : List UInt8) (w : World) (hu : IsArg w u l) (hv : IsArg w v l) :
    Calls Try.prog 12 #[.agg #[.int .u32 (L : Nat), .int .u32 (M : Nat), .int .u64 (T : Nat), u], .agg #[.int .u32 (L : Nat), .int .u32 (M : Nat), .int .u64 (T : Nat), v]] w fun e w' => e = .returned (.bool true) ∧ Below w.heap.size w w' := by
  have hb : Below w.heap.size w ((w.alloc (.cells #[.int .u32 (L : Nat), .int .u32 (M : Nat), .int .u64 (T : Nat), u] 26)).alloc (.cells #[.int .u32 (L : Nat), .int .u32 (M : Nat), .int .u64 (T : Nat), v] 26)) := ((Below.refl w.heap.size w).alloc (Nat.le_refl _) _).alloc (by simp) _
  have HB := Lib.hid hb
  have h1 := conv_bytes (hu.below hb).1
  have h2 := conv_bytes (hv.below hb).1
  obtain ⟨ua, un, uc, rfl, hun⟩ := hu.shape3
  obtain ⟨va, vn, vc, rfl, hvn⟩ := hv.shape3
  clear hu hv hb hun hvn
  go_enter Try.func12, Try.ntmps12
  go_wp2
  go_ret
  exact ⟨rfl, HB.out⟩
end Go.Proofs.Ytpnfikbpcpdgiaa
