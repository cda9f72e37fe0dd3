/- What num.Le, Be, FromLe and FromBe answer, for every number, size and bytes (FromLe, FromBe: of the first eight); what was there stays. -/
import Derived.Test.YtddimcicajlbgaaDoorNumB
namespace Go.Proofs.YtddimcicajlbgaaDoor
open Go.RowKit Go.Lib

set_option maxHeartbeats 400000 in
theorem le_row (n : Nat) (z : Int) (k : Nat) (hz : Clamped z k) (w : World) :
    Calls Tryd.prog 9 #[.int .u64 n, .int .i64 z] w fun e w' => ∃ g, e = .returned (.slice (some ⟨g, 0, none⟩) k k) ∧ w'.heap[g]? = some (.cells (byteCells (leB n k)).toArray 5 (0, 0)) ∧ w.heap.size ≤ g ∧ Below w.heap.size w w' := by
  go_enter Tryd.func9, Tryd.ntmps9
  go_wp2_with (go_at_call 24; refine (put_lo _ _ _ hz _).mono ?_; rintro e w' ⟨g, rfl, ho, hg, hb⟩)
  go_ret
  exact ⟨g, rfl, ho, hg, hb⟩
theorem le_any (n : Nat) (z : Int) (k : Nat) (hz : Clamped z k) (w : World) :
    Calls Tryd.prog 9 #[.int .u64 n, .int .i64 z] w fun e w' => ∃ v, e = .returned v ∧ w'.ownsRow w.heap.size 5 1 v k (byteCells (leB n k)) ∧ Below w.heap.size w w' :=
  (le_row n z k hz w).mono fun e w' ⟨g, he, ho, hg, hb⟩ => ⟨_, he, owns_of_row ho hg (by simp [byteCells]) (clamped_max hz), hb⟩

set_option maxHeartbeats 400000 in
theorem be_row (n : Nat) (z : Int) (k : Nat) (hz : Clamped z k) (w : World) :
    Calls Tryd.prog 10 #[.int .u64 n, .int .i64 z] w fun e w' => ∃ g, e = .returned (.slice (some ⟨g, 0, none⟩) k k) ∧ w'.heap[g]? = some (.cells (byteCells (beB n k)).toArray 5 (0, 0)) ∧ w.heap.size ≤ g ∧ Below w.heap.size w w' := by
  go_enter Tryd.func10, Tryd.ntmps10
  go_wp2_with (go_at_call 25; refine (put_hi _ _ _ hz _).mono ?_; rintro e w' ⟨g, rfl, ho, hg, hb⟩)
  go_ret
  exact ⟨g, rfl, ho, hg, hb⟩
theorem be_any (n : Nat) (z : Int) (k : Nat) (hz : Clamped z k) (w : World) :
    Calls Tryd.prog 10 #[.int .u64 n, .int .i64 z] w fun e w' => ∃ v, e = .returned v ∧ w'.ownsRow w.heap.size 5 1 v k (byteCells (beB n k)) ∧ Below w.heap.size w w' :=
  (be_row n z k hz w).mono fun e w' ⟨g, he, ho, hg, hb⟩ => ⟨_, he, owns_of_row ho hg (by simp [byteCells]) (clamped_max hz), hb⟩

set_option maxHeartbeats 1000000 in
theorem get_lo (v : Value) (l : List UInt8) (w : World) (hv : IsBytes w v l) :
    Calls Tryd.prog 26 #[.agg #[], v] w fun e w' => e = .returned (.int .u64 (leN (l.take 8))) ∧ Below w.heap.size w w' := by
  have hme := method_lo
  rcases hv with ⟨a0, c0, rfl, rfl⟩ | ⟨b, off, cap, rfl, hc1, hc2, hb, hcell⟩
  · go_enter Tryd.func26, Tryd.ntmps26
    go_wp2
    go_loopw [6, 12] (fun x c wr => x = .int .u64 0 ∧ c = .int .i64 0 ∧ Below w.heap.size w wr) (fun _ _ _ => 0)
    case atStart => exact ⟨rfl, rfl, (Below.refl _ _).alloc (Nat.le_refl _) _⟩
    case round =>
      obtain ⟨rfl, rfl, hb⟩ := hrel
      go_wp2
      go_ret
      exact ⟨rfl, hb⟩
  · unfold maxLen at hc2
    have HC := Lib.hid hcell
    clear hcell
    go_enter Tryd.func26, Tryd.ntmps26
    go_upto_region 1 with fail
    go_cut [5] (fun x wx => x = .int .i64 ((l.take 8).length : Nat) ∧ wx = w.alloc (.cells #[] 40))
    case first =>
      by_cases h8 : 8 < l.length
      all_goals (go_wp2_with fail; go_meet; exact ⟨by simp [List.length_take]; omega, rfl⟩)
    case rest =>
    obtain ⟨rfl, rfl⟩ := hcut
    obtain ⟨m, hm⟩ : ∃ m, m = (l.take 8).length := ⟨_, rfl⟩
    rw [← hm]
    have hm8 : m ≤ 8 := by rw [hm]; simp [List.length_take]; omega
    have hml : m ≤ l.length := by rw [hm]; simp [List.length_take]; omega
    have Hm := Lib.hid hm
    clear hm
    go_wp2
    go_loopw [6, 12] (fun x c wr => ∃ i : Nat, i ≤ m ∧ c = .int .i64 i ∧ x = .int .u64 (leN (l.take i)) ∧ Below w.heap.size w wr ∧ w.heap.size < wr.heap.size) (fun _ c _ => m - (intOf c).toNat)
    case atStart => exact ⟨0, Nat.zero_le _, rfl, rfl, (Below.refl _ _).alloc (Nat.le_refl _) _, by simp⟩
    case round =>
      obtain ⟨i, hi, rfl, rfl, hbw, hsz⟩ := hrel
      by_cases hlt : i < m
      · have hbl : b < wr.heap.size := by omega
        have hcl : wr.cell? ⟨b, off + i, none⟩ = some (.int .u8 (l.getD (i) 0).toNat) := by rw [hbw.cell (by simpa using hb)]; exact HC.out _ (by omega)
        have hi8 : IntKind.i64.wrap (8 * (i : Int)) = 8 * (i : Int) := IntWalk.i64_in _ (by omega)
        have hi9 : 0 ≤ 8 * (i : Int) := by omega
        go_wp2_with (go_at_call 70; refine (place_lo _ _ _).mono ?_; rintro e w' ⟨rfl, rfl⟩)
        go_roundw
        case rel =>
          have hs := or_step (leN (l.take i)) i (l[i]?.getD 0) (by have := leN_lt (l.take i); rwa [List.length_take, Nat.min_eq_left (by omega)] at this) (by omega)
          rw [← leN_take l i (by omega)] at hs
          exact ⟨i + 1, by omega, by go_num, by rw [hs], hbw.alloc (by omega) _, by simp; omega⟩
        case measure => simp [intOf]; omega
      · obtain rfl : i = m := by omega
        go_wp2
        go_ret
        exact ⟨by rw [lo_end l _ Hm.out]; rfl, hbw⟩

set_option maxHeartbeats 1000000 in
theorem get_hi (v : Value) (l : List UInt8) (w : World) (hv : IsBytes w v l) :
    Calls Tryd.prog 27 #[.agg #[], v] w fun e w' => e = .returned (.int .u64 (beN (l.take 8))) ∧ Below w.heap.size w w' := by
  have hme := method_hi
  rcases hv with ⟨a0, c0, rfl, rfl⟩ | ⟨b, off, cap, rfl, hc1, hc2, hb, hcell⟩
  · go_enter Tryd.func27, Tryd.ntmps27
    go_wp2
    go_loopw [6, 12] (fun x c wr => x = .int .u64 0 ∧ c = .int .i64 0 ∧ Below w.heap.size w wr) (fun _ _ _ => 0)
    case atStart => exact ⟨rfl, rfl, (Below.refl _ _).alloc (Nat.le_refl _) _⟩
    case round =>
      obtain ⟨rfl, rfl, hb⟩ := hrel
      go_wp2
      go_ret
      exact ⟨rfl, hb⟩
  · unfold maxLen at hc2
    have HC := Lib.hid hcell
    clear hcell
    go_enter Tryd.func27, Tryd.ntmps27
    go_upto_region 1 with fail
    go_cut [5] (fun x wx => x = .int .i64 ((l.take 8).length : Nat) ∧ wx = w.alloc (.cells #[] 42))
    case first =>
      by_cases h8 : 8 < l.length
      all_goals (go_wp2_with fail; go_meet; exact ⟨by simp [List.length_take]; omega, rfl⟩)
    case rest =>
    obtain ⟨rfl, rfl⟩ := hcut
    obtain ⟨m, hm⟩ : ∃ m, m = (l.take 8).length := ⟨_, rfl⟩
    rw [← hm]
    have hm8 : m ≤ 8 := by rw [hm]; simp [List.length_take]; omega
    have hml : m ≤ l.length := by rw [hm]; simp [List.length_take]; omega
    have Hm := Lib.hid hm
    clear hm
    go_wp2
    go_loopw [6, 12] (fun x c wr => ∃ i : Nat, i ≤ m ∧ c = .int .i64 i ∧ x = .int .u64 (leN ((l.take m).reverse.take i)) ∧ Below w.heap.size w wr ∧ w.heap.size < wr.heap.size) (fun _ c _ => m - (intOf c).toNat)
    case atStart => exact ⟨0, Nat.zero_le _, rfl, rfl, (Below.refl _ _).alloc (Nat.le_refl _) _, by simp⟩
    case round =>
      obtain ⟨i, hi, rfl, rfl, hbw, hsz⟩ := hrel
      by_cases hlt : i < m
      · have hbl : b < wr.heap.size := by omega
        have hcl : wr.cell? ⟨b, off + (m - 1 - i), none⟩ = some (.int .u8 (l.getD ((m - 1 - i)) 0).toNat) := by rw [hbw.cell (by simpa using hb)]; exact HC.out _ (by omega)
        have hi8 : IntKind.i64.wrap (8 * (i : Int)) = 8 * (i : Int) := IntWalk.i64_in _ (by omega)
        have hi9 : 0 ≤ 8 * (i : Int) := by omega
        go_wp2_with (go_at_call 71; refine (place_hi _ _ (by omega) (by omega) (by omega) _).mono ?_; rintro e w' ⟨rfl, rfl⟩)
        go_roundw
        case rel =>
          have hs := or_step (leN ((l.take m).reverse.take i)) i (l[m - 1 - i]?.getD 0) (by have := leN_lt ((l.take m).reverse.take i); rwa [List.length_take, List.length_reverse, List.length_take, Nat.min_eq_left hml, Nat.min_eq_left (by omega)] at this) (by omega)
          rw [← take_rev_at l m i hml hlt, ← leN_take _ i (by simp; omega), take_rev_at l m i hml hlt] at hs
          exact ⟨i + 1, by omega, by go_num, by rw [hs], hbw.alloc (by omega) _, by simp; omega⟩
        case measure => simp [intOf]; omega
      · obtain rfl : i = m := by omega
        go_wp2
        go_ret
        exact ⟨by rw [hi_end l _ Hm.out]; rfl, hbw⟩

set_option maxHeartbeats 400000 in
theorem fromLe_any (v : Value) (l : List UInt8) (w : World) (hv : IsBytes w v l) :
    Calls Tryd.prog 14 #[v] w fun e w' => e = .returned (.int .u64 (leN (l.take 8))) ∧ Below w.heap.size w w' := by
  go_enter Tryd.func14, Tryd.ntmps14
  go_wp2_with (go_at_call 26; refine (get_lo _ l _ hv).mono ?_; rintro e w' ⟨rfl, hb⟩)
  go_ret
  exact ⟨rfl, hb⟩
set_option maxHeartbeats 400000 in
theorem fromBe_any (v : Value) (l : List UInt8) (w : World) (hv : IsBytes w v l) :
    Calls Tryd.prog 16 #[v] w fun e w' => e = .returned (.int .u64 (beN (l.take 8))) ∧ Below w.heap.size w w' := by
  go_enter Tryd.func16, Tryd.ntmps16
  go_wp2_with (go_at_call 27; refine (get_hi _ l _ hv).mono ?_; rintro e w' ⟨rfl, hb⟩)
  go_ret
  exact ⟨rfl, hb⟩
end Go.Proofs.YtddimcicajlbgaaDoor
