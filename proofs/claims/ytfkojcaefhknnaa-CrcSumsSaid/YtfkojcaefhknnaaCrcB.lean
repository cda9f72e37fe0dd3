/- What crc.Of answers: for every bytes; what was there stays. -/
import Derived.Test.YtfkojcaefhknnaaCrcA
import Derived.OneCell
namespace Go.Proofs.Ytfkojcaefhknnaa
open Go.RowKit Go.Lib

set_option maxHeartbeats 400000 in
theorem from_any (x : Nat) (w : World) :
    Calls Try.prog 20 #[.int .u32 x] w fun e w' => e = .returned (.func (.func 22) #[] #[.pointer (some ⟨w.heap.size, 0, none⟩)]) ∧ w' = w.alloc (.cells #[.int .u32 x] 27) := by
  go_enter Try.func20, Try.ntmps20
  go_wp2
  go_ret
  exact ⟨rfl, rfl⟩

set_option maxHeartbeats 400000 in
theorem from1_any (x : Nat) (hx : x < 4294967296) (c : UInt8) (b : Nat) (w : World) (hc : w.cell? ⟨b, 0, none⟩ = some (.int .u32 (x : Int))) (hf : w.frozen? ⟨b, 0, none⟩ = false) :
    Calls Try.prog 22 #[.int .u8 (c.toNat : Nat), .pointer (some ⟨b, 0, none⟩)] w fun e w' => e = .returned (.int .u32 (nextN x c : Nat)) ∧ w' = w.setCell ⟨b, 0, none⟩ (.int .u32 (nextN x c : Nat)) := by
  go_enter Try.func22, Try.ntmps22
  go_wp2_with (go_at_call 13; refine (next_any x hx c _).mono ?_; rintro e w' ⟨rfl, rfl⟩)
  go_ret
  exact ⟨rfl, rfl⟩

theorem not32 (s : Nat) (h : s < 4294967296) : bits BinOp.xor IntKind.u32 IntKind.u32.max (s : Int) = ((crcOnes - s : Nat) : Int) := by
  rw [show IntKind.u32.max = ((crcOnes : Nat) : Int) from rfl, u32_xor_nat crcOnes s ones_lt h, not_xor h]

set_option maxHeartbeats 1000000 in
theorem of_any (v : Value) (l : List UInt8) (w : World) (hv : IsBytes w v l) :
    Calls Try.prog 11 #[v] w fun e w' => e = .returned (.int .u32 (crcOf l : Nat)) ∧ Below w.heap.size w w' := by
  have hn1 := not32 (R crcOnes l) (R_lt ones_lt l)
  have HN := Lib.hid hn1
  clear hn1
  rcases hv with ⟨a0, c0, rfl, rfl⟩ | ⟨b, off, cap, rfl, hc1, hc2, hb, hcell⟩
  · go_enter Try.func11, Try.ntmps11
    go_wp2_with (go_at_call 20; refine (from_any 4294967295 _).mono ?_; rintro e w' ⟨rfl, rfl⟩)
    go_loopw [3, 10] (fun x c wr => x = .int .u32 4294967295 ∧ c = .int .i64 0 ∧ Below w.heap.size w wr) (fun _ _ _ => 0)
    case atStart => exact ⟨rfl, rfl, (Below.refl _ _).alloc (Nat.le_refl _) _⟩
    case round =>
      obtain ⟨rfl, rfl, hbw⟩ := hrel
      go_wp2
      go_ret
      exact ⟨rfl, hbw⟩
  · unfold maxLen at hc2
    have HC := Lib.hid hcell
    clear hcell
    go_enter Try.func11, Try.ntmps11
    go_wp2_with (go_at_call 20; refine (from_any 4294967295 _).mono ?_; rintro e w' ⟨rfl, rfl⟩)
    go_loopw [3, 10] (fun x c wr => ∃ i : Nat, i ≤ l.length ∧ c = .int .i64 i ∧ x = .int .u32 (R crcOnes (l.take i) : Nat) ∧ wr.heap[w.heap.size]? = some (.cells #[.int .u32 (R crcOnes (l.take i) : Nat)] 27 (0, 0)) ∧ Below w.heap.size w wr) (fun _ c _ => l.length - (intOf c).toNat)
    case atStart => exact ⟨0, Nat.zero_le _, rfl, rfl, heap_alloc_new w _, (Below.refl _ _).alloc (Nat.le_refl _) _⟩
    case round =>
      obtain ⟨i, hi, rfl, rfl, hbox, hbw⟩ := hrel
      have hsz := hbw.size
      obtain ⟨s, hs⟩ : ∃ s, s = R crcOnes (l.take i) := ⟨_, rfl⟩
      have hsl : s < 4294967296 := by rw [hs]; exact R_lt ones_lt _
      rw [← hs] at hbox
      rw [← hs]
      by_cases hlt : i < l.length
      · obtain ⟨x, hx⟩ : ∃ x, x = l[i]?.getD 0 := ⟨_, rfl⟩
        have hcl : wr.cell? ⟨b, off + i, none⟩ = some (.int .u8 x.toNat) := by rw [hbw.cell (by simpa using hb), HC.out i hlt, hx]; simp
        have hbc : wr.cell? ⟨w.heap.size, 0, none⟩ = some (.int .u32 (s : Int)) := by unfold World.cell?; rw [hbox]; rfl
        have hbf : wr.frozen? ⟨w.heap.size, 0, none⟩ = false := by unfold World.frozen?; rw [hbox]; rfl
        have hst : nextN s x = R crcOnes (l.take (i + 1)) := by rw [R_take _ _ _ hlt, ← hs, ← hx]
        have HS := Lib.hid hst
        have HB := Lib.hid hbox
        clear hs hx hst hbox
        go_wp2_with (go_at_call 22; refine (from1_any s hsl x _ _ hbc hbf).mono ?_; rintro e w' ⟨rfl, rfl⟩)
        go_roundw
        case rel =>
          refine ⟨i + 1, by omega, by go_num, by rw [HS.out], ?_, hbw.setCell (Nat.le_refl _) _⟩
          rw [← HS.out]
          exact row_set (xs := [.int .u32 (s : Int)]) HB.out _
        case measure => simp [intOf]; omega
      · obtain rfl : i = l.length := by omega
        have hfin : s = R crcOnes l := by rw [hs, List.take_length]
        rw [← hfin] at HN
        have HF := Lib.hid hfin
        clear hs hfin hbox
        have hnn := HN.out
        go_wp2
        go_ret
        exact ⟨ret_u32 (show crcOnes - s = crcOf l by unfold crcOf; rw [HF.out]), hbw⟩

set_option maxHeartbeats 1000000 in
theorem refOf_any (v : Value) (l : List UInt8) (w : World) (hv : IsBytes w v l) :
    Calls Try.prog 12 #[v] w fun e w' => e = .returned (.int .u32 (crcOf l : Nat)) ∧ w = w' := by
  rcases hv with ⟨a0, c0, rfl, rfl⟩ | ⟨b, off, cap, rfl, hc1, hc2, hb, hcell⟩
  · go_enter Try.func12, Try.ntmps12
    go_wp2
    go_loop [3, 4] (fun x c => x = .int .u32 4294967295 ∧ c = .int .i64 0) (fun _ _ => 0)
    case atStart => exact ⟨rfl, rfl⟩
    case round =>
      obtain ⟨rfl, rfl⟩ := hrel
      go_wp2
      go_ret
      exact ⟨rfl, rfl⟩
  · unfold maxLen at hc2
    have HC := Lib.hid hcell
    clear hcell
    go_enter Try.func12, Try.ntmps12
    go_wp2
    go_loop [3, 4] (fun x c => ∃ i : Nat, i ≤ l.length ∧ c = .int .i64 i ∧ x = .int .u32 (R crcOnes (l.take i) : Nat)) (fun _ c => l.length - (intOf c).toNat)
    case atStart => exact ⟨0, Nat.zero_le _, rfl, rfl⟩
    case round =>
      obtain ⟨i, hi, rfl, rfl⟩ := hrel
      obtain ⟨s, hs⟩ : ∃ s, s = R crcOnes (l.take i) := ⟨_, rfl⟩
      have hsl : s < 4294967296 := by rw [hs]; exact R_lt ones_lt _
      rw [← hs]
      by_cases hlt : i < l.length
      · obtain ⟨x, hx⟩ : ∃ x, x = l[i]?.getD 0 := ⟨_, rfl⟩
        have hcl : w.cell? ⟨b, off + i, none⟩ = some (.int .u8 x.toNat) := by rw [HC.out i hlt, hx]; simp
        have hst : nextN s x = R crcOnes (l.take (i + 1)) := by rw [R_take _ _ _ hlt, ← hs, ← hx]
        have HS := Lib.hid hst
        clear hs hx hst
        go_wp2_with (go_at_call 14; refine (refNext_any s hsl x _).mono ?_; rintro e w' ⟨rfl, rfl⟩)
        go_round
        case rel => exact ⟨i + 1, by omega, by go_num, by rw [HS.out]⟩
        case measure => simp [intOf]; omega
      · obtain rfl : i = l.length := by omega
        have hfin : crcOf l = 4294967295 - s := by unfold crcOf; rw [hs, List.take_length]; rfl
        have HF := Lib.hid hfin
        clear hs hfin
        go_wp2
        go_ret
        exact ⟨by rw [HF.out, Int.ofNat_sub (by omega)]; rfl, rfl⟩
end Go.Proofs.Ytfkojcaefhknnaa
