/- What ports.Check and the faults answer, the document's Check and asked; the bit of a line, and the document's with; boxes of four cells. -/
import Derived.Test.YtpnfikbpcpdgiaaPrtP
import Derived.Test.YtpnfikbpcpdgiaaClone
import Derived.Test.YtpnfikbpcpdgiaaCat
import Derived.Laws.BitsAllLaws
import Derived.WalkMore
namespace Go.Proofs.Ytpnfikbpcpdgiaa
open Go.RowKit Go.Lib

theorem kept {w w' : World} {a : Addr} {v : Value} (h : w.cell? a = some v) (hb : Below w.heap.size w w') : w'.cell? a = some v := by
  rw [hb.cell (World.block_lt_of_cell? w _ h)]; exact h
theorem row_keep {w w' : World} {g : Nat} {o : Obj} (h : w.heap[g]? = some o) (hb : Below w.heap.size w w') : w'.heap[g]? = some o := (hb.block g (Array.getElem?_eq_some_iff.1 h).1).trans h
theorem row_far {X : World} {r : Nat} {o : Obj} (h : X.heap[r]? = some o) (a : Addr) (x : Value) (hne : r ≠ a.block) : (X.setCell a x).heap[r]? = some o := by rw [Below.heap_setCell _ _ _ _ hne]; exact h
/-- What a box of four cells holds. -/
def Four (X : World) (r : Nat) (a b c d : Value) : Prop := X.cell? ⟨r, 0, none⟩ = some a ∧ X.cell? ⟨r, 1, none⟩ = some b ∧ X.cell? ⟨r, 2, none⟩ = some c ∧ X.cell? ⟨r, 3, none⟩ = some d
def Free4 (X : World) (r : Nat) : Prop := X.frozen? ⟨r, 0, none⟩ = false ∧ X.frozen? ⟨r, 1, none⟩ = false ∧ X.frozen? ⟨r, 2, none⟩ = false ∧ X.frozen? ⟨r, 3, none⟩ = false
theorem four {X : World} {r : Nat} {a b c d : Value} {t : TypeId} (h : X.heap[r]? = some (.cells #[a, b, c, d] t (0, 0))) : Four X r a b c d := by
  refine ⟨?_, ?_, ?_, ?_⟩
  all_goals (unfold World.cell?; rw [h]; rfl)
theorem free4 {X : World} {r : Nat} {a b c d : Value} {t : TypeId} (h : X.heap[r]? = some (.cells #[a, b, c, d] t (0, 0))) : Free4 X r := by
  refine ⟨?_, ?_, ?_, ?_⟩
  all_goals (unfold World.frozen?; rw [h]; simp)
theorem Four.keep {w w' : World} {r : Nat} {a b c d : Value} (h : Four w r a b c d) (hb : Below w.heap.size w w') : Four w' r a b c d := ⟨kept h.1 hb, kept h.2.1 hb, kept h.2.2.1 hb, kept h.2.2.2 hb⟩
/-- A box, or two, behind a call. -/
theorem box_row {w w' : World} {cs : Array Value} {t : TypeId} {fr : Nat × Nat} (h : Below (w.alloc (.cells cs t fr)).heap.size (w.alloc (.cells cs t fr)) w') : w'.heap[w.heap.size]? = some (.cells cs t fr) := row_keep (heap_alloc_new w _) h
theorem boxes_rows {w w' : World} {cs ds : Array Value} {s t : TypeId} {fr fs : Nat × Nat} (h : Below ((w.alloc (.cells cs s fr)).alloc (.cells ds t fs)).heap.size ((w.alloc (.cells cs s fr)).alloc (.cells ds t fs)) w') :
    w'.heap[w.heap.size]? = some (.cells cs s fr) ∧ w'.heap[w.heap.size + 1]? = some (.cells ds t fs) ∧ w.heap.size + 1 < w'.heap.size := by
  have h1 := row_keep (row_keep (heap_alloc_new w (.cells cs s fr)) ((Below.refl _ _).alloc (Nat.le_refl _) (.cells ds t fs))) h
  have h2 := row_keep (heap_alloc_new (w.alloc (.cells cs s fr)) (.cells ds t fs)) h
  have h3 := h.size
  simp at h2 h3
  exact ⟨h1, h2, by omega⟩

set_option maxHeartbeats 1000000 in
theorem check_any (L M T : Nat) (a : Option Addr) (n c : Nat) (hn : n ≤ maxLen) (r : Bool) (hr : chkP T n = r) (w : World) :
    Calls Try.prog 24 #[.agg #[.int .u32 (L : Nat), .int .u32 (M : Nat), .int .u64 (T : Nat), .slice a n c]] w fun e w' => e = .returned (.bool r) ∧ Below w.heap.size w w' := by
  unfold maxLen at hn
  unfold chkP at hr
  by_cases h1 : T ≤ 1099511627776
  · by_cases h2 : n ≤ 64
    · obtain rfl : r = true := by rw [← hr]; exact decide_eq_true ⟨h1, h2⟩
      clear hr
      go_enter Try.func24, Try.ntmps24
      go_wp2
      go_ret
      refine ⟨?_, (Below.refl _ _).alloc (Nat.le_refl _) _⟩
      show Ending.returned (.bool (decide ((n : Int) ≤ 64))) = _
      rw [decide_eq_true (by omega)]
    · obtain rfl : r = false := by rw [← hr]; exact decide_eq_false (fun h => h2 h.2)
      clear hr
      go_enter Try.func24, Try.ntmps24
      go_wp2
      go_ret
      refine ⟨?_, (Below.refl _ _).alloc (Nat.le_refl _) _⟩
      show Ending.returned (.bool (decide ((n : Int) ≤ 64))) = _
      rw [decide_eq_false (by omega)]
  · obtain rfl : r = false := by rw [← hr]; exact decide_eq_false (fun h => h1 h.1)
    clear hr
    go_enter Try.func24, Try.ntmps24
    go_wp2
    go_ret
    exact ⟨rfl, (Below.refl _ _).alloc (Nat.le_refl _) _⟩

set_option maxHeartbeats 1000000 in
theorem refCheck_any (L M T : Nat) (a : Option Addr) (n c : Nat) (hn : n ≤ maxLen) (r : Bool) (hr : chkP T n = r) (w : World) :
    Calls Try.prog 6 #[.agg #[.int .u32 (L : Nat), .int .u32 (M : Nat), .int .u64 (T : Nat), .slice a n c]] w fun e w' => e = .returned (.bool r) ∧ Below w.heap.size w w' := by
  unfold maxLen at hn
  unfold chkP at hr
  by_cases h1 : T ≤ 1099511627776
  · by_cases h2 : n ≤ 64
    · obtain rfl : r = true := by rw [← hr]; exact decide_eq_true ⟨h1, h2⟩
      clear hr
      go_enter Try.func6, Try.ntmps6
      go_wp2
      go_ret
      refine ⟨?_, (Below.refl _ _).alloc (Nat.le_refl _) _⟩
      show Ending.returned (.bool (decide ((n : Int) ≤ 64))) = _
      rw [decide_eq_true (by omega)]
    · obtain rfl : r = false := by rw [← hr]; exact decide_eq_false (fun h => h2 h.2)
      clear hr
      go_enter Try.func6, Try.ntmps6
      go_wp2
      go_ret
      refine ⟨?_, (Below.refl _ _).alloc (Nat.le_refl _) _⟩
      show Ending.returned (.bool (decide ((n : Int) ≤ 64))) = _
      rw [decide_eq_false (by omega)]
  · obtain rfl : r = false := by rw [← hr]; exact decide_eq_false (fun h => h1 h.1)
    clear hr
    go_enter Try.func6, Try.ntmps6
    go_wp2
    go_ret
    exact ⟨rfl, (Below.refl _ _).alloc (Nat.le_refl _) _⟩

set_option maxHeartbeats 1000000 in
theorem form_any (L M T : Nat) (a : Option Addr) (n c : Nat) (hn : n ≤ maxLen) (F : Int) (hF : formP T n = F) (w : World) :
    Calls Try.prog 34 #[.agg #[.int .u32 (L : Nat), .int .u32 (M : Nat), .int .u64 (T : Nat), .slice a n c]] w fun e w' => e = .returned (.int .i64 F) ∧ Below w.heap.size w w' := by
  have HN := Lib.hid hn
  clear hn
  rcases form_cases T n with ⟨h, hk⟩ | ⟨h, hk⟩
  all_goals
    rw [h] at hF
    subst hF
    have HK := Lib.hid hk
    clear h hk
    go_enter Try.func34, Try.ntmps34
    go_wp2_with fail
    refine (check_any _ _ _ _ _ _ HN.out _ HK.out _).mono ?_
    rintro e w1 ⟨rfl, hb⟩
    have HB := Lib.hid (((Below.refl w.heap.size w).alloc (Nat.le_refl _) (.cells #[.int .u32 (L : Nat), .int .u32 (M : Nat), .int .u64 (T : Nat), .slice a n c] 26)).trans (hb.mono (by simp)))
    clear hb
    go_wp2
    go_ret
    exact ⟨rfl, HB.out⟩

set_option maxHeartbeats 2000000 in
theorem line_any (L M T : Nat) (a : Option Addr) (n c : Nat) (hn : n ≤ maxLen) (z : Int) (F : Int) (hF : lineP T n z = F) (w : World) :
    Calls Try.prog 38 #[.agg #[.int .u32 (L : Nat), .int .u32 (M : Nat), .int .u64 (T : Nat), .slice a n c], .int .i64 z] w fun e w' => e = .returned (.int .i64 F) ∧ Below w.heap.size w w' := by
  have HN := Lib.hid hn
  clear hn
  rcases line_cases T n z with ⟨h, _, hf⟩ | ⟨h, _, hf, h1⟩ | ⟨h, _, hf, h1, h2⟩
  · rw [h] at hF
    subst hF
    have HK := Lib.hid hf
    clear h hf
    go_enter Try.func38, Try.ntmps38
    go_wp2_with fail
    refine (form_any _ _ _ _ _ _ HN.out _ HK.out _).mono ?_
    rintro e w1 ⟨rfl, hb⟩
    have HB := Lib.hid (((Below.refl w.heap.size w).alloc (Nat.le_refl _) (.cells #[.int .u32 (L : Nat), .int .u32 (M : Nat), .int .u64 (T : Nat), .slice a n c] 26)).trans (hb.mono (by simp)))
    clear hb
    go_wp2
    go_ret
    exact ⟨rfl, HB.out⟩
  · rw [h] at hF
    subst hF
    have HK := Lib.hid hf
    clear h hf
    by_cases h0 : z < 0
    · clear h1
      go_enter Try.func38, Try.ntmps38
      go_wp2_with fail
      refine (form_any _ _ _ _ _ _ HN.out _ HK.out _).mono ?_
      rintro e w1 ⟨rfl, hb⟩
      have HB := Lib.hid (((Below.refl w.heap.size w).alloc (Nat.le_refl _) (.cells #[.int .u32 (L : Nat), .int .u32 (M : Nat), .int .u64 (T : Nat), .slice a n c] 26)).trans (hb.mono (by simp)))
      clear hb
      go_wp2
      go_ret
      exact ⟨rfl, HB.out⟩
    · have h2 : 31 < z := by omega
      clear h1
      go_enter Try.func38, Try.ntmps38
      go_wp2_with fail
      refine (form_any _ _ _ _ _ _ HN.out _ HK.out _).mono ?_
      rintro e w1 ⟨rfl, hb⟩
      have HB := Lib.hid (((Below.refl w.heap.size w).alloc (Nat.le_refl _) (.cells #[.int .u32 (L : Nat), .int .u32 (M : Nat), .int .u64 (T : Nat), .slice a n c] 26)).trans (hb.mono (by simp)))
      clear hb
      go_wp2
      go_ret
      exact ⟨rfl, HB.out⟩
  · rw [h] at hF
    subst hF
    have HK := Lib.hid hf
    clear h hf
    go_enter Try.func38, Try.ntmps38
    go_wp2_with fail
    refine (form_any _ _ _ _ _ _ HN.out _ HK.out _).mono ?_
    rintro e w1 ⟨rfl, hb⟩
    have HB := Lib.hid (((Below.refl w.heap.size w).alloc (Nat.le_refl _) (.cells #[.int .u32 (L : Nat), .int .u32 (M : Nat), .int .u64 (T : Nat), .slice a n c] 26)).trans (hb.mono (by simp)))
    clear hb
    go_wp2
    go_ret
    exact ⟨rfl, HB.out⟩

set_option maxHeartbeats 2000000 in
theorem asked_any (L M T : Nat) (a : Option Addr) (n c : Nat) (hn : n ≤ maxLen) (z : Int) (F : Int) (hF : lineP T n z = F) (w : World) :
    Calls Try.prog 29 #[.agg #[.int .u32 (L : Nat), .int .u32 (M : Nat), .int .u64 (T : Nat), .slice a n c], .int .i64 z] w fun e w' => e = .returned (.int .i64 F) ∧ Below w.heap.size w w' := by
  have HN := Lib.hid hn
  clear hn
  rcases line_cases T n z with ⟨h, hf, _⟩ | ⟨h, hf, _, h1⟩ | ⟨h, hf, _, h1, h2⟩
  · rw [h] at hF
    subst hF
    have HK := Lib.hid hf
    clear h hf
    go_enter Try.func29, Try.ntmps29
    go_wp2_with fail
    refine (refCheck_any _ _ _ _ _ _ HN.out _ HK.out _).mono ?_
    rintro e w1 ⟨rfl, hb⟩
    have HB := Lib.hid (((Below.refl w.heap.size w).alloc (Nat.le_refl _) (.cells #[.int .u32 (L : Nat), .int .u32 (M : Nat), .int .u64 (T : Nat), .slice a n c] 26)).trans (hb.mono (by simp)))
    clear hb
    go_wp2
    go_ret
    exact ⟨rfl, HB.out⟩
  · rw [h] at hF
    subst hF
    have HK := Lib.hid hf
    clear h hf
    by_cases h0 : z < 0
    · clear h1
      go_enter Try.func29, Try.ntmps29
      go_wp2_with fail
      refine (refCheck_any _ _ _ _ _ _ HN.out _ HK.out _).mono ?_
      rintro e w1 ⟨rfl, hb⟩
      have HB := Lib.hid (((Below.refl w.heap.size w).alloc (Nat.le_refl _) (.cells #[.int .u32 (L : Nat), .int .u32 (M : Nat), .int .u64 (T : Nat), .slice a n c] 26)).trans (hb.mono (by simp)))
      clear hb
      go_wp2
      go_ret
      exact ⟨rfl, HB.out⟩
    · have h2 : 31 < z := by omega
      clear h1
      go_enter Try.func29, Try.ntmps29
      go_wp2_with fail
      refine (refCheck_any _ _ _ _ _ _ HN.out _ HK.out _).mono ?_
      rintro e w1 ⟨rfl, hb⟩
      have HB := Lib.hid (((Below.refl w.heap.size w).alloc (Nat.le_refl _) (.cells #[.int .u32 (L : Nat), .int .u32 (M : Nat), .int .u64 (T : Nat), .slice a n c] 26)).trans (hb.mono (by simp)))
      clear hb
      go_wp2
      go_ret
      exact ⟨rfl, HB.out⟩
  · rw [h] at hF
    subst hF
    have HK := Lib.hid hf
    clear h hf
    go_enter Try.func29, Try.ntmps29
    go_wp2_with fail
    refine (refCheck_any _ _ _ _ _ _ HN.out _ HK.out _).mono ?_
    rintro e w1 ⟨rfl, hb⟩
    have HB := Lib.hid (((Below.refl w.heap.size w).alloc (Nat.le_refl _) (.cells #[.int .u32 (L : Nat), .int .u32 (M : Nat), .int .u64 (T : Nat), .slice a n c] 26)).trans (hb.mono (by simp)))
    clear hb
    go_wp2
    go_ret
    exact ⟨rfl, HB.out⟩

set_option maxHeartbeats 2000000 in
theorem tickFault_any (L M T : Nat) (a : Option Addr) (n c : Nat) (hn : n ≤ maxLen) (t : Nat) (F : Int) (hF : tickP T n t = F) (w : World) :
    Calls Try.prog 32 #[.agg #[.int .u32 (L : Nat), .int .u32 (M : Nat), .int .u64 (T : Nat), .slice a n c], .int .u64 (t : Nat)] w fun e w' => e = .returned (.int .i64 F) ∧ Below w.heap.size w w' := by
  have HN := Lib.hid hn
  clear hn
  rcases tick_cases T n t with ⟨h, _, hf⟩ | ⟨h, _, hf, h1⟩ | ⟨h, _, hf, h1, h2⟩ | ⟨h, _, hf, h1, h2⟩
  all_goals
    rw [h] at hF
    subst hF
    have HK := Lib.hid hf
    clear h hf
    go_enter Try.func32, Try.ntmps32
    go_wp2_with fail
    refine (form_any _ _ _ _ _ _ HN.out _ HK.out _).mono ?_
    rintro e w1 ⟨rfl, hb⟩
    obtain ⟨_, _, hc3, _⟩ := four (box_row hb)
    have HB := Lib.hid (((Below.refl w.heap.size w).alloc (Nat.le_refl _) (.cells #[.int .u32 (L : Nat), .int .u32 (M : Nat), .int .u64 (T : Nat), .slice a n c] 26)).trans (hb.mono (by simp)))
    clear hb
    go_wp2
    go_ret
    exact ⟨rfl, HB.out⟩

set_option maxHeartbeats 2000000 in
theorem drawFault_any (L M T : Nat) (a : Option Addr) (n c : Nat) (hn : n ≤ maxLen) (z : Int) (F : Int) (hF : drawP T n z = F) (w : World) :
    Calls Try.prog 36 #[.agg #[.int .u32 (L : Nat), .int .u32 (M : Nat), .int .u64 (T : Nat), .slice a n c], .int .i64 z] w fun e w' => e = .returned (.int .i64 F) ∧ Below w.heap.size w w' := by
  have HN := Lib.hid hn
  clear hn
  rcases draw_cases T n z with ⟨h, _, hf⟩ | ⟨h, _, hf, h1⟩ | ⟨h, _, hf, h1, h2⟩ | ⟨h, _, hf, h1, h2⟩
  all_goals
    rw [h] at hF
    subst hF
    have HK := Lib.hid hf
    clear h hf
    go_enter Try.func36, Try.ntmps36
    go_wp2_with fail
    refine (form_any _ _ _ _ _ _ HN.out _ HK.out _).mono ?_
    rintro e w1 ⟨rfl, hb⟩
    obtain ⟨_, _, _, hc4⟩ := four (box_row hb)
    have HB := Lib.hid (((Below.refl w.heap.size w).alloc (Nat.le_refl _) (.cells #[.int .u32 (L : Nat), .int .u32 (M : Nat), .int .u64 (T : Nat), .slice a n c] 26)).trans (hb.mono (by simp)))
    clear hb
    go_wp2
    go_ret
    exact ⟨rfl, HB.out⟩

theorem pow_mod (k : Nat) (hk : k ≤ 31) : ((2 : Int) ^ k % 4294967296) = ((2 ^ k : Nat) : Int) := by
  have h := pow_lt32 hk
  have h2 : ((2 : Int) ^ k) = ((2 ^ k : Nat) : Int) := by rw [Int.natCast_pow]; rfl
  rw [h2]
  exact Int.emod_eq_of_lt (Int.natCast_nonneg _) (Int.ofNat_lt.2 h)
set_option maxHeartbeats 1000000 in
theorem bitOf_any (k : Nat) (hk : k ≤ 31) (b : Nat) (hb : b = 2 ^ k) (w : World) :
    Calls Try.prog 25 #[.int .i64 (k : Nat)] w fun e w' => e = .returned (.int .u32 (b : Nat)) ∧ w' = w := by
  have HW := Lib.hid (pow_mod k hk)
  rw [← hb] at HW
  clear hb
  go_enter Try.func25, Try.ntmps25
  go_wp2
  go_ret
  exact ⟨by rw [← HW.out]; rfl, rfl⟩
set_option maxHeartbeats 1000000 in
theorem with_any (x k : Nat) (hx : x < 4294967296) (hk : k ≤ 31) (on : Bool) (y : Nat) (hy : (if on = true then setB x k else clrB x k) = y) (w : World) :
    Calls Try.prog 30 #[.int .u32 (x : Nat), .int .i64 (k : Nat), .bool on] w fun e w' => e = .returned (.int .u32 (y : Nat)) ∧ w' = w := by
  have hp := pow_mod k hk
  have hl := pow_lt32 hk
  have h1 := u32_or_nat x (2 ^ k) hx hl
  have h2 := u32_andNot_nat x (2 ^ k) hx hl
  have HP := Lib.hid hp
  have H1 := Lib.hid h1
  have H2 := Lib.hid h2
  clear hp h1 h2 hl
  cases on with
  | true =>
    rw [if_pos rfl] at hy
    subst hy
    go_enter Try.func30, Try.ntmps30
    go_wp2
    go_ret
    refine ⟨?_, rfl⟩
    show Ending.returned (.int .u32 (bits BinOp.or IntKind.u32 (x : Int) ((2 : Int) ^ k % 4294967296))) = _
    rw [HP.out, H1.out]
    rfl
  | false =>
    rw [if_neg (by decide)] at hy
    subst hy
    go_enter Try.func30, Try.ntmps30
    go_wp2
    go_ret
    refine ⟨?_, rfl⟩
    show Ending.returned (.int .u32 (bits BinOp.andNot IntKind.u32 (x : Int) ((2 : Int) ^ k % 4294967296))) = _
    rw [HP.out, H2.out]
    rfl
end Go.Proofs.Ytpnfikbpcpdgiaa
