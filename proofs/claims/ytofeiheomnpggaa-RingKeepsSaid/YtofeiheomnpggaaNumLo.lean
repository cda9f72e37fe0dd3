/- What num.Le and num.FromLe answer, for every number, size and bytes (FromBe: of the first eight); what was there stays. -/
import Derived.Test.YtofeiheomnpggaaArg
import Derived.WalkSpells
import Derived.WalkLawsBesides
import Derived.Deep.RegionWith
import Derived.Deep.QuietTactic
import Derived.Deep.DeepCutAuto
namespace Go.Proofs.Ytofeiheomnpggaa
open Go.RowKit Go.Lib

set_option maxHeartbeats 400000 in
theorem place_lo (i n : Int) (w : World) :
    Calls Try.prog 93 #[.agg #[], .int .i64 i, .int .i64 n] w fun e w' => e = .returned (.int .i64 i) ∧ w' = w.alloc (.cells #[] 105) := by
  go_enter Try.func93, Try.ntmps93
  go_wp2
  go_ret
  exact ⟨rfl, rfl⟩

theorem method_lo (w : World) : (method 227 105 (.agg #[]) "phonograph/num.place").run Try.prog w = .ok (93, .agg #[]) w := by kernel_rfl

set_option maxHeartbeats 1000000 in
theorem put_lo (n : Nat) (z : Int) (k : Nat) (hz : Clamped z k) (w : World) :
   
    Calls Try.prog 76 #[.agg #[], .int .u64 n, .int .i64 z] w fun e w' => ∃ g, e = .returned (.slice (some ⟨g, 0, none⟩) k k) ∧ w'.heap[g]? = some (.cells (byteCells (leB n k)).toArray 5 (0, 0)) ∧ w.heap.size ≤ g ∧ Below w.heap.size w w' := by
  have hk : k ≤ 8 := by rcases hz with h | h | h <;> omega
  have hmk := run_make_row' (P := Try.prog) 26 5 (.int .u8 0) 1 Try.underlying26 info8 rfl .i64 .i64 k (by omega) (by omega)
  have hme := method_lo
  go_enter Try.func76, Try.ntmps76
  go_upto_region 1 with fail
  go_cut [2] (fun x wx => x = .int .i64 k ∧ wx = w.alloc (.cells #[] 105))
  case first =>
    rcases hz with ⟨h, rfl⟩ | ⟨h1, h2, rfl⟩ | ⟨h, rfl⟩
    all_goals (go_wp2_with fail; go_meet; exact ⟨rfl, rfl⟩)
  case rest =>
  obtain ⟨rfl, rfl⟩ := hcut
  go_wp2
  go_loopw [15] (fun c wr => ∃ i : Nat, i ≤ k ∧ c = .int .i64 i ∧ wr.heap[w.heap.size + 1]? = some (.cells (loRow n k i).toArray 5 (0, 0)) ∧ Below w.heap.size w wr) (fun c _ => k - (intOf c).toNat)
  case atStart =>
    refine ⟨0, Nat.zero_le _, rfl, ?_, ((Below.refl _ _).alloc (Nat.le_refl _) _).alloc (by simp) _⟩
    rw [loRow_zero, ← made_zeros, Array.toArray_toList]
    simpa using heap_alloc_new (w.alloc (.cells #[] 105)) (.cells (madeCells #[Value.int .u8 0] k) 5)
  case round =>
    obtain ⟨i, hi, rfl, hrow, hb⟩ := hrel
    by_cases hlt : i < k
    · have hlt' : w.heap.size + 1 < wr.heap.size := by have := (Array.getElem?_eq_some_iff.1 hrow).1; exact this
      have hcell : wr.cell? ⟨w.heap.size + 1, i, none⟩ = some (.int .u8 0) := by simp [World.cell?, hrow, loRow_at _ _ _ hlt]
      have hfz : wr.frozen? ⟨w.heap.size + 1, i, none⟩ = false := by simp [World.frozen?, hrow]
      have hm8 : IntKind.i64.wrap (8 * (i : Int)) = 8 * (i : Int) := IntWalk.i64_in _ (by omega)
      have hm9 : 0 ≤ 8 * (i : Int) := by omega
      have HR := Lib.hid hrow
      clear hrow
      go_wp2
      go_region_with (go_at_call 93; refine (place_lo _ _ _).mono ?_; rintro e w' ⟨rfl, rfl⟩)
      go_wp2
      go_roundw
      case rel => exact ⟨i + 1, by omega, by go_num, row_drew (row_alloc (by rw [byte_put, ← loRow_set _ _ _ hlt]; exact row_set HR.out _) _), ((hb.setCell (by simp) _).alloc (by simp; omega) _).drew⟩
      case measure => simp [intOf]; omega
    · obtain rfl : i = k := by omega
      have HR := Lib.hid hrow
      clear hrow
      go_wp2
      go_ret
      exact ⟨_, rfl, by rw [← loRow_all]; exact HR.out, by omega, hb⟩

set_option maxHeartbeats 400000 in
theorem le_row (n : Nat) (z : Int) (k : Nat) (hz : Clamped z k) (w : World) :
    Calls Try.prog 69 #[.int .u64 n, .int .i64 z] w fun e w' => ∃ g, e = .returned (.slice (some ⟨g, 0, none⟩) k k) ∧ w'.heap[g]? = some (.cells (byteCells (leB n k)).toArray 5 (0, 0)) ∧ w.heap.size ≤ g ∧ Below w.heap.size w w' := by
  go_enter Try.func69, Try.ntmps69
  go_wp2_with (go_at_call 76; refine (put_lo _ _ _ hz _).mono ?_; rintro e w' ⟨g, rfl, ho, hg, hb⟩)
  go_ret
  exact ⟨g, rfl, ho, hg, hb⟩

theorem le_any (n : Nat) (z : Int) (k : Nat) (hz : Clamped z k) (w : World) :
    Calls Try.prog 69 #[.int .u64 n, .int .i64 z] w fun e w' => ∃ v, e = .returned v ∧ w'.ownsRow w.heap.size 5 1 v k (byteCells (leB n k)) ∧ Below w.heap.size w w' :=
  (le_row n z k hz w).mono fun e w' ⟨g, he, ho, hg, hb⟩ => ⟨_, he, owns_of_row ho hg (by simp [byteCells]) (clamped_max hz), hb⟩

set_option maxHeartbeats 1000000 in
theorem get_lo (v : Value) (l : List UInt8) (w : World) (hv : IsBytes w v l) :
    Calls Try.prog 74 #[.agg #[], v] w fun e w' => e = .returned (.int .u64 (leN (l.take 8))) ∧ Below w.heap.size w w' := by
  have hme := method_lo
  rcases hv with ⟨a0, c0, rfl, rfl⟩ | ⟨b, off, cap, rfl, hc1, hc2, hb, hcell⟩
  · go_enter Try.func74, Try.ntmps74
    go_wp2
    go_loopw [6, 12] (fun x c wr => x = .int .u64 0 ∧ c = .int .i64 0 ∧ Below w.heap.size w wr) (fun _ _ _ => 0)
    case atStart => exact ⟨rfl, rfl, (Below.refl _ _).alloc (Nat.le_refl _) _⟩
    case round =>
      obtain ⟨rfl, rfl, hb⟩ := hrel
      go_wp2
      go_ret
      exact ⟨rfl, hb⟩
  · unfold maxLen at hc2
    have HC := Lib.hid hcell
    clear hcell
    go_enter Try.func74, Try.ntmps74
    go_upto_region 1 with fail
    go_cut [5] (fun x wx => x = .int .i64 ((l.take 8).length : Nat) ∧ wx = w.alloc (.cells #[] 105))
    case first =>
      by_cases h8 : 8 < l.length
      all_goals (go_wp2_with fail; go_meet; exact ⟨by simp [List.length_take]; omega, rfl⟩)
    case rest =>
    obtain ⟨rfl, rfl⟩ := hcut
    obtain ⟨m, hm⟩ : ∃ m, m = (l.take 8).length := ⟨_, rfl⟩
    rw [← hm]
    have hm8 : m ≤ 8 := by rw [hm]; simp [List.length_take]; omega
    have hml : m ≤ l.length := by rw [hm]; simp [List.length_take]; omega
    have Hm := Lib.hid hm
    clear hm
    go_wp2
    go_loopw [6, 12] (fun x c wr => ∃ i : Nat, i ≤ m ∧ c = .int .i64 i ∧ x = .int .u64 (leN (l.take i)) ∧ Below w.heap.size w wr ∧ w.heap.size < wr.heap.size) (fun _ c _ => m - (intOf c).toNat)
    case atStart => exact ⟨0, Nat.zero_le _, rfl, rfl, (Below.refl _ _).alloc (Nat.le_refl _) _, by simp⟩
    case round =>
      obtain ⟨i, hi, rfl, rfl, hbw, hsz⟩ := hrel
      by_cases hlt : i < m
      · have hbl : b < wr.heap.size := by omega
        have hcl : wr.cell? ⟨b, off + i, none⟩ = some (.int .u8 (l.getD (i) 0).toNat) := by rw [hbw.cell (by simpa using hb)]; exact HC.out _ (by omega)
        have hi8 : IntKind.i64.wrap (8 * (i : Int)) = 8 * (i : Int) := IntWalk.i64_in _ (by omega)
        have hi9 : 0 ≤ 8 * (i : Int) := by omega
        go_wp2_with (go_at_call 93; refine (place_lo _ _ _).mono ?_; rintro e w' ⟨rfl, rfl⟩)
        go_roundw
        case rel =>
          have hs := or_step (leN (l.take i)) i (l[i]?.getD 0) (by have := leN_lt (l.take i); rwa [List.length_take, Nat.min_eq_left (by omega)] at this) (by omega)
          rw [← leN_take l i (by omega)] at hs
          exact ⟨i + 1, by omega, by go_num, by rw [hs], hbw.alloc (by omega) _, by simp; omega⟩
        case measure => simp [intOf]; omega
      · obtain rfl : i = m := by omega
        go_wp2
        go_ret
        exact ⟨by rw [lo_end l _ Hm.out]; rfl, hbw⟩

set_option maxHeartbeats 400000 in
theorem fromLe_any (v : Value) (l : List UInt8) (w : World) (hv : IsBytes w v l) :
    Calls Try.prog 63 #[v] w fun e w' => e = .returned (.int .u64 (leN (l.take 8))) ∧ Below w.heap.size w w' := by
  go_enter Try.func63, Try.ntmps63
  go_wp2_with (go_at_call 74; refine (get_lo _ l _ hv).mono ?_; rintro e w' ⟨rfl, hb⟩)
  go_ret
  exact ⟨rfl, hb⟩
end Go.Proofs.Ytofeiheomnpggaa
