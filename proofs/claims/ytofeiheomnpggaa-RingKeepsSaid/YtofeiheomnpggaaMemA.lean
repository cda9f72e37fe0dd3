/- What memory's questions answer: between, Check, fault, sizeFault; the document's Check, Inside, Few; what was there stays. -/
import Derived.Test.YtofeiheomnpggaaMemP
import Derived.Test.YtofeiheomnpggaaArg
namespace Go.Proofs.Ytofeiheomnpggaa
open Go.RowKit Go.Lib

set_option maxHeartbeats 400000 in
theorem between_any (a b c : Int) (r : Bool) (hr : r = decide (a ≤ b ∧ b ≤ c)) (w : World) :
    Calls Try.prog 60 #[.int .i64 a, .int .i64 b, .int .i64 c] w fun e w' => e = .returned (.bool r) ∧ w' = w := by
  by_cases h1 : a ≤ b
  · by_cases h2 : b ≤ c
    · obtain rfl : r = true := by rw [hr]; exact decide_eq_true ⟨h1, h2⟩
      clear hr
      go_enter Try.func60, Try.ntmps60
      go_wp2
      go_ret
      exact ⟨rfl, rfl⟩
    · obtain rfl : r = false := by rw [hr]; exact decide_eq_false (fun h => h2 h.2)
      clear hr
      go_enter Try.func60, Try.ntmps60
      go_wp2
      go_ret
      exact ⟨rfl, rfl⟩
  · obtain rfl : r = false := by rw [hr]; exact decide_eq_false (fun h => h1 h.1)
    clear hr
    go_enter Try.func60, Try.ntmps60
    go_wp2
    go_ret
    exact ⟨rfl, rfl⟩

set_option maxHeartbeats 400000 in
theorem check_any (a : Option Addr) (n c : Nat) (hn : n ≤ maxLen) (r : Bool) (hr : r = decide (n ≤ 8192)) (w : World) :
    Calls Try.prog 48 #[.agg #[.slice a n c]] w fun e w' => e = .returned (.bool r) ∧ Below w.heap.size w w' := by
  unfold maxLen at hn
  have hb : r = decide ((0 : Int) ≤ n ∧ (n : Int) ≤ 8192) := by
    rw [hr]
    by_cases h : n ≤ 8192
    · rw [decide_eq_true h, decide_eq_true]; omega
    · rw [decide_eq_false h, decide_eq_false]; omega
  have HB := Lib.hid hb
  clear hb hr
  go_enter Try.func48, Try.ntmps48
  go_wp2_with (go_at_call 60; refine (between_any _ _ _ r HB.out _).mono ?_; rintro e w' ⟨rfl, rfl⟩)
  go_ret
  exact ⟨rfl, (Below.refl _ _).alloc (Nat.le_refl _) _⟩

set_option maxHeartbeats 400000 in
theorem refCheck_any (a : Option Addr) (n c : Nat) (hn : n ≤ maxLen) (r : Bool) (hr : r = decide (n ≤ 8192)) (w : World) :
    Calls Try.prog 49 #[.agg #[.slice a n c]] w fun e w' => e = .returned (.bool r) ∧ Below w.heap.size w w' := by
  unfold maxLen at hn
  have hb : decide ((n : Int) ≤ 8192) = r := by
    rw [hr]
    by_cases h : n ≤ 8192
    · rw [decide_eq_true h, decide_eq_true]; omega
    · rw [decide_eq_false h, decide_eq_false]; omega
  have HB := Lib.hid hb
  clear hb hr
  go_enter Try.func49, Try.ntmps49
  go_wp2
  go_ret
  refine ⟨?_, (Below.refl _ _).alloc (Nat.le_refl _) _⟩
  show Ending.returned (.bool (decide ((n : Int) ≤ 8192))) = _
  rw [HB.out]

set_option maxHeartbeats 400000 in
theorem few_any (a : Option Addr) (n c : Nat) (hn : n ≤ maxLen) (r : Bool) (hr : r = decide (n ≤ 3000)) (w : World) :
    Calls Try.prog 13 #[.agg #[.slice a n c]] w fun e w' => e = .returned (.bool r) ∧ Below w.heap.size w w' := by
  unfold maxLen at hn
  have hb : decide ((n : Int) ≤ 3000) = r := by
    rw [hr]
    by_cases h : n ≤ 3000
    · rw [decide_eq_true h, decide_eq_true]; omega
    · rw [decide_eq_false h, decide_eq_false]; omega
  have HB := Lib.hid hb
  clear hb hr
  go_enter Try.func13, Try.ntmps13
  go_wp2
  go_ret
  refine ⟨?_, (Below.refl _ _).alloc (Nat.le_refl _) _⟩
  show Ending.returned (.bool (decide ((n : Int) ≤ 3000))) = _
  rw [HB.out]

/-- A box of one cell stays. -/
theorem box_cell {w w' : World} {v : Value} {t : TypeId} {fr : Nat × Nat} (h : Below (w.alloc (.cells #[v] t fr)).heap.size (w.alloc (.cells #[v] t fr)) w') : w'.cell? ⟨w.heap.size, 0, none⟩ = some v := by
  rw [h.cell (by simp)]
  have h1 := heap_alloc_new w (.cells #[v] t fr)
  unfold World.cell?
  rw [h1]
  rfl

set_option maxHeartbeats 1000000 in
theorem fault_any (a : Option Addr) (n c : Nat) (hn : n ≤ maxLen) (x y : Int) (w : World) :
    Calls Try.prog 72 #[.agg #[.slice a n c], .int .i64 x, .int .i64 y] w fun e w' => e = .returned (.int .i64 (faultOf n x y)) ∧ Below w.heap.size w w' := by
  have hn1 := hn
  unfold maxLen at hn1
  have HN := Lib.hid hn
  clear hn
  rcases fault_cases n x y with ⟨hf, h1⟩ | ⟨hf, h1, h2⟩ | ⟨hf, h1, h2, h3, h4, h5⟩
  · rw [hf]
    have HC := Lib.hid (show false = decide (n ≤ 8192) from (decide_eq_false (by omega)).symm)
    clear hf
    go_enter Try.func72, Try.ntmps72
    go_wp2_with (go_at_call 48; refine (check_any _ _ _ HN.out _ HC.out _).mono ?_; rintro e w1 ⟨rfl, hb⟩)
    go_ret
    exact ⟨rfl, ((Below.refl _ _).alloc (Nat.le_refl _) _).trans (hb.mono (by simp))⟩
  · rw [hf]
    have HC := Lib.hid (show true = decide (n ≤ 8192) from (decide_eq_true h1).symm)
    clear hf
    by_cases h3 : 0 ≤ x ∧ x ≤ n
    · have HB := Lib.hid (show true = decide (0 ≤ x ∧ x ≤ (n : Int)) from (decide_eq_true h3).symm)
      have HB2 := Lib.hid (show false = decide (0 ≤ y ∧ y ≤ (n : Int) - x) from (decide_eq_false (by omega)).symm)
      obtain ⟨h4, h5⟩ := h3
      clear h2
      go_enter Try.func72, Try.ntmps72
      go_wp2_with fail
      refine (check_any _ _ _ HN.out _ HC.out _).mono ?_
      rintro e w1 ⟨rfl, hb⟩
      have hcl := box_cell hb
      go_wp2_with fail
      refine (between_any _ _ _ _ HB.out _).mono ?_
      rintro e w2 ⟨rfl, rfl⟩
      go_wp2_with fail
      refine (between_any _ _ _ _ HB2.out _).mono ?_
      rintro e w3 ⟨rfl, rfl⟩
      go_wp2
      go_ret
      exact ⟨rfl, ((Below.refl _ _).alloc (Nat.le_refl _) _).trans (hb.mono (by simp))⟩
    · have HB := Lib.hid (show false = decide (0 ≤ x ∧ x ≤ (n : Int)) from (decide_eq_false h3).symm)
      clear h2 h3
      go_enter Try.func72, Try.ntmps72
      go_wp2_with fail
      refine (check_any _ _ _ HN.out _ HC.out _).mono ?_
      rintro e w1 ⟨rfl, hb⟩
      have hcl := box_cell hb
      go_wp2_with fail
      refine (between_any _ _ _ _ HB.out _).mono ?_
      rintro e w2 ⟨rfl, rfl⟩
      go_wp2
      go_ret
      exact ⟨rfl, ((Below.refl _ _).alloc (Nat.le_refl _) _).trans (hb.mono (by simp))⟩
  · rw [hf]
    have HC := Lib.hid (show true = decide (n ≤ 8192) from (decide_eq_true h1).symm)
    have HB := Lib.hid (show true = decide (0 ≤ x ∧ x ≤ (n : Int)) from (decide_eq_true ⟨h2, h3⟩).symm)
    have HB2 := Lib.hid (show true = decide (0 ≤ y ∧ y ≤ (n : Int) - x) from (decide_eq_true ⟨h4, h5⟩).symm)
    clear hf
    go_enter Try.func72, Try.ntmps72
    go_wp2_with fail
    refine (check_any _ _ _ HN.out _ HC.out _).mono ?_
    rintro e w1 ⟨rfl, hb⟩
    have hcl := box_cell hb
    go_wp2_with fail
    refine (between_any _ _ _ _ HB.out _).mono ?_
    rintro e w2 ⟨rfl, rfl⟩
    go_wp2_with fail
    refine (between_any _ _ _ _ HB2.out _).mono ?_
    rintro e w3 ⟨rfl, rfl⟩
    go_wp2
    go_ret
    exact ⟨rfl, ((Below.refl _ _).alloc (Nat.le_refl _) _).trans (hb.mono (by simp))⟩

set_option maxHeartbeats 1000000 in
theorem sizeFault_any (a : Option Addr) (n c : Nat) (hn : n ≤ maxLen) (y : Int) (w : World) :
    Calls Try.prog 61 #[.agg #[.slice a n c], .int .i64 y] w fun e w' => e = .returned (.int .i64 (sizeFaultOf n y)) ∧ Below w.heap.size w w' := by
  have HN := Lib.hid hn
  clear hn
  rcases size_cases n y with ⟨hf, h1⟩ | ⟨hf, h1, h2⟩ | ⟨hf, h1, h2⟩
  · rw [hf]
    have HC := Lib.hid (show false = decide (n ≤ 8192) from (decide_eq_false (by omega)).symm)
    clear hf
    go_enter Try.func61, Try.ntmps61
    go_wp2_with (go_at_call 48; refine (check_any _ _ _ HN.out _ HC.out _).mono ?_; rintro e w1 ⟨rfl, hb⟩)
    go_ret
    exact ⟨rfl, ((Below.refl _ _).alloc (Nat.le_refl _) _).trans (hb.mono (by simp))⟩
  · rw [hf]
    have HC := Lib.hid (show true = decide (n ≤ 8192) from (decide_eq_true h1).symm)
    have HB := Lib.hid (show false = decide (1 ≤ y ∧ y ≤ 8) from (decide_eq_false h2).symm)
    clear hf h2
    go_enter Try.func61, Try.ntmps61
    go_wp2_with fail
    refine (check_any _ _ _ HN.out _ HC.out _).mono ?_
    rintro e w1 ⟨rfl, hb⟩
    go_wp2_with fail
    refine (between_any _ _ _ _ HB.out _).mono ?_
    rintro e w2 ⟨rfl, rfl⟩
    go_wp2
    go_ret
    exact ⟨rfl, ((Below.refl _ _).alloc (Nat.le_refl _) _).trans (hb.mono (by simp))⟩
  · rw [hf]
    have HC := Lib.hid (show true = decide (n ≤ 8192) from (decide_eq_true h1).symm)
    have HB := Lib.hid (show true = decide (1 ≤ y ∧ y ≤ 8) from (decide_eq_true h2).symm)
    clear hf h2
    go_enter Try.func61, Try.ntmps61
    go_wp2_with fail
    refine (check_any _ _ _ HN.out _ HC.out _).mono ?_
    rintro e w1 ⟨rfl, hb⟩
    go_wp2_with fail
    refine (between_any _ _ _ _ HB.out _).mono ?_
    rintro e w2 ⟨rfl, rfl⟩
    go_wp2
    go_ret
    exact ⟨rfl, ((Below.refl _ _).alloc (Nat.le_refl _) _).trans (hb.mono (by simp))⟩

set_option maxHeartbeats 2000000 in
theorem inside_any (a : Option Addr) (n c : Nat) (hn : n ≤ 8192) (x y : Int) (hy0 : -9223372036854775808 ≤ y ∧ y ≤ 9223372036854775807) (r : Bool) (hr : r = decide (faultOf n x y = 0)) (w : World) :
    Calls Try.prog 50 #[.agg #[.slice a n c], .int .i64 x, .int .i64 y] w fun e w' => e = .returned (.bool r) ∧ Below w.heap.size w w' := by
  have h : r = decide (0 ≤ x ∧ 0 ≤ y ∧ y ≤ (n : Int) ∧ x ≤ (n : Int) - y) := by
    rw [hr]
    rcases fault_cases n x y with ⟨hf, h1⟩ | ⟨hf, h1, h2⟩ | ⟨hf, h1, h2⟩
    · omega
    · rw [hf, decide_eq_false (by decide), decide_eq_false (by omega)]
    · rw [hf, decide_eq_true rfl, decide_eq_true (by omega)]
  clear hr
  by_cases h1 : 0 ≤ x
  · by_cases h2 : 0 ≤ y
    · by_cases h3 : y ≤ (n : Int)
      · by_cases h4 : x ≤ (n : Int) - y
        · obtain rfl : r = true := by rw [h]; exact decide_eq_true ⟨h1, h2, h3, h4⟩
          clear h
          go_enter Try.func50, Try.ntmps50
          go_wp2
          go_ret
          exact ⟨rfl, (Below.refl _ _).alloc (Nat.le_refl _) _⟩
        · obtain rfl : r = false := by rw [h]; exact decide_eq_false (fun hh => h4 hh.2.2.2)
          clear h
          go_enter Try.func50, Try.ntmps50
          go_wp2
          go_ret
          exact ⟨rfl, (Below.refl _ _).alloc (Nat.le_refl _) _⟩
      · obtain rfl : r = false := by rw [h]; exact decide_eq_false (fun hh => h3 hh.2.2.1)
        clear h
        go_enter Try.func50, Try.ntmps50
        go_wp2
        go_ret
        exact ⟨rfl, (Below.refl _ _).alloc (Nat.le_refl _) _⟩
    · obtain rfl : r = false := by rw [h]; exact decide_eq_false (fun hh => h2 hh.2.1)
      clear h
      go_enter Try.func50, Try.ntmps50
      go_wp2
      go_ret
      exact ⟨rfl, (Below.refl _ _).alloc (Nat.le_refl _) _⟩
  · obtain rfl : r = false := by rw [h]; exact decide_eq_false (fun hh => h1 hh.1)
    clear h
    go_enter Try.func50, Try.ntmps50
    go_wp2
    go_ret
    exact ⟨rfl, (Below.refl _ _).alloc (Nat.le_refl _) _⟩
end Go.Proofs.Ytofeiheomnpggaa
