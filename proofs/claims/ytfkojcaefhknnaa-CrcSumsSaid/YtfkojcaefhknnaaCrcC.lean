/- What crc.tail makes: a new row of the sum's four bytes; what was there stays. -/
import Derived.Test.YtfkojcaefhknnaaCrcB
namespace Go.Proofs.Ytfkojcaefhknnaa
open Go.RowKit Go.Lib

set_option maxHeartbeats 1000000 in
theorem tail_row (n : Nat) (w : World) :
    Calls Try.prog 18 #[.int .u32 n] w fun e w' => ∃ g, e = .returned (.slice (some ⟨g, 0, none⟩) 4 4) ∧ w'.heap[g]? = some (.cells (byteCells (leB n 4)).toArray 5 (0, 0)) ∧ w.heap.size ≤ g ∧ Below w.heap.size w w' := by
  have hmk : ∀ W : World, (Instr.makeSlice 22 (.int .i64 4) (.int .i64 4)).run Try.prog W = .ok (.slice (some ⟨W.heap.size, 0, none⟩) 4 4) (W.alloc (.cells (madeCells #[Value.int .u8 0] 4) 5)) := fun W => by
    have := run_make_row' (P := Try.prog) 22 5 (.int .u8 0) 1 Try.underlying22 info8 rfl .i64 .i64 4 (by omega) (by omega) W
    simpa using this
  go_enter Try.func18, Try.ntmps18
  go_wp2
  go_loopw [6] (fun c wr => ∃ i : Nat, i ≤ 4 ∧ c = .int .i64 i ∧ wr.heap[w.heap.size]? = some (.cells (loRow n 4 i).toArray 5 (0, 0)) ∧ Below w.heap.size w wr) (fun c _ => 4 - (intOf c).toNat)
  case atStart =>
    refine ⟨0, Nat.zero_le _, rfl, ?_, (Below.refl _ _).alloc (Nat.le_refl _) _⟩
    rw [loRow_zero, ← made_zeros, Array.toArray_toList]
    exact heap_alloc_new w (.cells (madeCells #[Value.int .u8 0] 4) 5)
  case round =>
    obtain ⟨i, hi, rfl, hrow, hb⟩ := hrel
    by_cases hlt : i < 4
    · have hlt' : w.heap.size < wr.heap.size := by have := (Array.getElem?_eq_some_iff.1 hrow).1; exact this
      have hcell : wr.cell? ⟨w.heap.size, i, none⟩ = some (.int .u8 0) := by simp [World.cell?, hrow, loRow_at _ _ _ hlt]
      have hfz : wr.frozen? ⟨w.heap.size, i, none⟩ = false := by simp [World.frozen?, hrow]
      have hm8 : IntKind.i64.wrap (8 * (i : Int)) = 8 * (i : Int) := IntWalk.i64_in _ (by omega)
      have hm9 : 0 ≤ 8 * (i : Int) := by omega
      have HR := Lib.hid hrow
      clear hrow
      go_wp2
      go_roundw
      case rel => exact ⟨i + 1, by omega, by go_num, by rw [byte_put, ← loRow_set _ _ _ hlt]; exact row_set HR.out _, (hb.setCell (by simp) _)⟩
      case measure => simp [intOf]; omega
    · obtain rfl : i = 4 := by omega
      have HR := Lib.hid hrow
      clear hrow
      go_wp2
      go_ret
      exact ⟨_, rfl, by rw [← loRow_all]; exact HR.out, by omega, hb⟩
end Go.Proofs.Ytfkojcaefhknnaa
