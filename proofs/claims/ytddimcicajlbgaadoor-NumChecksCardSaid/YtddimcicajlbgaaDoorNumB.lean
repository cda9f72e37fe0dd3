/- What num.put makes in either order, for every number and size: a new row of the lowest bytes, the size taken as 0 below 0 and as 8 above 8; what was there stays. -/
import Derived.Test.YtddimcicajlbgaaDoorNumA
import Derived.Test.YtddimcicajlbgaaDoorNumP
import Derived.Deep.RegionWith
import Derived.Deep.QuietTactic
import Derived.Deep.OwnRows
import Derived.BigQuiet
import Derived.Lib.Hide
import Derived.Deep.DeepCutAuto
namespace Go.Proofs.YtddimcicajlbgaaDoor
open Go.RowKit Go.Lib

theorem info8 : (Tryd.prog.info? 5).map (fun i => (i.zero, i.size, i.bytes)) = some (some (.int .u8 0), 1, 1) := by kernel_rfl

/-- What Le and Be make of a size. -/
def Clamped (z : Int) (k : Nat) : Prop := (z < 0 ∧ k = 0) ∨ (0 ≤ z ∧ z ≤ 8 ∧ z = (k : Int)) ∨ (8 < z ∧ k = 8)
theorem clamped (z : Int) : ∃ k, Clamped z k ∧ k ≤ 8 := by
  unfold Clamped
  by_cases h : z < 0
  · exact ⟨0, .inl ⟨h, rfl⟩, by omega⟩
  · by_cases h2 : 8 < z
    · exact ⟨8, .inr (.inr ⟨h2, rfl⟩), by omega⟩
    · exact ⟨z.toNat, .inr (.inl ⟨by omega, by omega, by omega⟩), by omega⟩
theorem clamped_of (k : Nat) (h : k ≤ 8) : Clamped (k : Int) k := .inr (.inl ⟨by omega, by omega, rfl⟩)
theorem clamped_max {z : Int} {k : Nat} (hz : Clamped z k) : k ≤ maxLen := by
  have : k ≤ 8 := by rcases hz with h | h | h <;> omega
  unfold maxLen; omega
theorem method_lo (w : World) : (method 200 40 (.agg #[]) "phonograph/num.place").run Tryd.prog w = .ok (70, .agg #[]) w := by kernel_rfl
theorem method_hi (w : World) : (method 200 42 (.agg #[]) "phonograph/num.place").run Tryd.prog w = .ok (71, .agg #[]) w := by kernel_rfl


set_option maxHeartbeats 1000000 in
theorem put_lo (n : Nat) (z : Int) (k : Nat) (hz : Clamped z k) (w : World) :
   
    Calls Tryd.prog 24 #[.agg #[], .int .u64 n, .int .i64 z] w fun e w' => ∃ g, e = .returned (.slice (some ⟨g, 0, none⟩) k k) ∧ w'.heap[g]? = some (.cells (byteCells (leB n k)).toArray 5 (0, 0)) ∧ w.heap.size ≤ g ∧ Below w.heap.size w w' := by
  have hk : k ≤ 8 := by rcases hz with h | h | h <;> omega
  have hmk := run_make_row' (P := Tryd.prog) 24 5 (.int .u8 0) 1 Tryd.underlying24 info8 rfl .i64 .i64 k (by omega) (by omega)
  have hme := method_lo
  go_enter Tryd.func24, Tryd.ntmps24
  go_upto_region 1 with fail
  go_cut [2] (fun x wx => x = .int .i64 k ∧ wx = w.alloc (.cells #[] 40))
  case first =>
    rcases hz with ⟨h, rfl⟩ | ⟨h1, h2, rfl⟩ | ⟨h, rfl⟩
    all_goals (go_wp2_with fail; go_meet; exact ⟨rfl, rfl⟩)
  case rest =>
  obtain ⟨rfl, rfl⟩ := hcut
  go_wp2
  go_loopw [15] (fun c wr => ∃ i : Nat, i ≤ k ∧ c = .int .i64 i ∧ wr.heap[w.heap.size + 1]? = some (.cells (loRow n k i).toArray 5 (0, 0)) ∧ Below w.heap.size w wr) (fun c _ => k - (intOf c).toNat)
  case atStart =>
    refine ⟨0, Nat.zero_le _, rfl, ?_, ((Below.refl _ _).alloc (Nat.le_refl _) _).alloc (by simp) _⟩
    rw [loRow_zero, ← made_zeros, Array.toArray_toList]
    simpa using heap_alloc_new (w.alloc (.cells #[] 40)) (.cells (madeCells #[Value.int .u8 0] k) 5)
  case round =>
    obtain ⟨i, hi, rfl, hrow, hb⟩ := hrel
    by_cases hlt : i < k
    · have hlt' : w.heap.size + 1 < wr.heap.size := by have := (Array.getElem?_eq_some_iff.1 hrow).1; exact this
      have hcell : wr.cell? ⟨w.heap.size + 1, i, none⟩ = some (.int .u8 0) := by simp [World.cell?, hrow, loRow_at _ _ _ hlt]
      have hfz : wr.frozen? ⟨w.heap.size + 1, i, none⟩ = false := by simp [World.frozen?, hrow]
      have hm8 : IntKind.i64.wrap (8 * (i : Int)) = 8 * (i : Int) := IntWalk.i64_in _ (by omega)
      have hm9 : 0 ≤ 8 * (i : Int) := by omega
      have HR := Lib.hid hrow
      clear hrow
      go_wp2
      go_region_with (go_at_call 70; refine (place_lo _ _ _).mono ?_; rintro e w' ⟨rfl, rfl⟩)
      go_wp2
      go_roundw
      case rel => exact ⟨i + 1, by omega, by go_num, row_drew (row_alloc (by rw [byte_put, ← loRow_set _ _ _ hlt]; exact row_set HR.out _) _), ((hb.setCell (by simp) _).alloc (by simp; omega) _).drew⟩
      case measure => simp [intOf]; omega
    · obtain rfl : i = k := by omega
      have HR := Lib.hid hrow
      clear hrow
      go_wp2
      go_ret
      exact ⟨_, rfl, by rw [← loRow_all]; exact HR.out, by omega, hb⟩

set_option maxHeartbeats 1000000 in
theorem put_hi (n : Nat) (z : Int) (k : Nat) (hz : Clamped z k) (w : World) :
   
    Calls Tryd.prog 25 #[.agg #[], .int .u64 n, .int .i64 z] w fun e w' => ∃ g, e = .returned (.slice (some ⟨g, 0, none⟩) k k) ∧ w'.heap[g]? = some (.cells (byteCells (beB n k)).toArray 5 (0, 0)) ∧ w.heap.size ≤ g ∧ Below w.heap.size w w' := by
  have hk : k ≤ 8 := by rcases hz with h | h | h <;> omega
  have hmk := run_make_row' (P := Tryd.prog) 24 5 (.int .u8 0) 1 Tryd.underlying24 info8 rfl .i64 .i64 k (by omega) (by omega)
  have hme := method_hi
  go_enter Tryd.func25, Tryd.ntmps25
  go_upto_region 1 with fail
  go_cut [2] (fun x wx => x = .int .i64 k ∧ wx = w.alloc (.cells #[] 42))
  case first =>
    rcases hz with ⟨h, rfl⟩ | ⟨h1, h2, rfl⟩ | ⟨h, rfl⟩
    all_goals (go_wp2_with fail; go_meet; exact ⟨rfl, rfl⟩)
  case rest =>
  obtain ⟨rfl, rfl⟩ := hcut
  go_wp2
  go_loopw [15] (fun c wr => ∃ i : Nat, i ≤ k ∧ c = .int .i64 i ∧ wr.heap[w.heap.size + 1]? = some (.cells (hiRow n k i).toArray 5 (0, 0)) ∧ Below w.heap.size w wr) (fun c _ => k - (intOf c).toNat)
  case atStart =>
    refine ⟨0, Nat.zero_le _, rfl, ?_, ((Below.refl _ _).alloc (Nat.le_refl _) _).alloc (by simp) _⟩
    rw [hiRow_zero, ← made_zeros, Array.toArray_toList]
    simpa using heap_alloc_new (w.alloc (.cells #[] 42)) (.cells (madeCells #[Value.int .u8 0] k) 5)
  case round =>
    obtain ⟨i, hi, rfl, hrow, hb⟩ := hrel
    by_cases hlt : i < k
    · have hlt' : w.heap.size + 1 < wr.heap.size := by have := (Array.getElem?_eq_some_iff.1 hrow).1; exact this
      have hcell : wr.cell? ⟨w.heap.size + 1, k - 1 - i, none⟩ = some (.int .u8 0) := by simp [World.cell?, hrow, hiRow_at _ _ _ hlt]
      have hfz : wr.frozen? ⟨w.heap.size + 1, k - 1 - i, none⟩ = false := by simp [World.frozen?, hrow]
      have hm8 : IntKind.i64.wrap (8 * (i : Int)) = 8 * (i : Int) := IntWalk.i64_in _ (by omega)
      have hm9 : 0 ≤ 8 * (i : Int) := by omega
      have HR := Lib.hid hrow
      clear hrow
      go_wp2
      go_region_with (go_at_call 71; refine (place_hi _ _ (by omega) (by omega) (by omega) _).mono ?_; rintro e w' ⟨rfl, rfl⟩)
      go_wp2
      go_roundw
      case rel => exact ⟨i + 1, by omega, by go_num, row_drew (row_alloc (by rw [byte_put, ← hiRow_set _ _ _ hlt]; exact row_set HR.out _) _), ((hb.setCell (by simp) _).alloc (by simp; omega) _).drew⟩
      case measure => simp [intOf]; omega
    · obtain rfl : i = k := by omega
      have HR := Lib.hid hrow
      clear hrow
      go_wp2
      go_ret
      exact ⟨_, rfl, by rw [← hiRow_all]; exact HR.out, by omega, hb⟩
end Go.Proofs.YtddimcicajlbgaaDoor
