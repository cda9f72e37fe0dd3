/- What crc.Next and crc.Of answer, and the document's own: for every state, byte and bytes; what was there stays. -/
import Derived.Test.YtfkojcaefhknnaaBase
import Derived.Test.YtfkojcaefhknnaaCrcM
import Derived.Laws.BitsAllLaws
import Derived.WalkMore
namespace Go.Proofs.Ytfkojcaefhknnaa
open Go.RowKit Go.Lib

theorem ret_u32 {a b : Nat} (h : a = b) : Ending.returned (.int .u32 (a : Int)) = .returned (.int .u32 (b : Int)) := by rw [h]
theorem step_odd (s : Nat) (hs : s < 4294967296) (h : s % 2 = 1) : bits BinOp.xor IntKind.u32 ((s : Int) / 2) 2197175160 = ((step s : Nat) : Int) := by
  have h1 := u32_xor_nat (s / 2) crcPoly (by omega) poly_lt
  unfold step
  rw [if_pos h, ← h1, Int.natCast_ediv]
  rfl
theorem step_even (s : Nat) (h : s % 2 = 0) : ((s : Int) / 2) = ((step s : Nat) : Int) := by
  unfold step
  rw [if_neg (by omega), Int.natCast_ediv]
  rfl
theorem first_xor (x : Nat) (hx : x < 4294967296) (c : UInt8) : bits BinOp.xor IntKind.u32 (x : Int) ((c.toNat : Nat) : Int) = ((x ^^^ c.toNat : Nat) : Int) := by
  have := c.toNat_lt
  exact u32_xor_nat x c.toNat hx (by omega)
theorem c32 (c : UInt8) : IntKind.u32.wrap ((c.toNat : Nat) : Int) = ((c.toNat : Nat) : Int) := by
  have := c.toNat_lt
  exact IntWalk.u32_in _ (by omega)

set_option maxHeartbeats 1000000 in
theorem next_any (x : Nat) (hx : x < 4294967296) (c : UInt8) (w : World) :
    Calls Try.prog 13 #[.int .u32 x, .int .u8 (c.toNat : Nat)] w fun e w' => e = .returned (.int .u32 (nextN x c : Nat)) ∧ w = w' := by
  obtain ⟨y, hy⟩ : ∃ y, y = x ^^^ c.toNat := ⟨_, rfl⟩
  have hyl : y < 4294967296 := by rw [hy]; exact xor_lt32 hx (by have := c.toNat_lt; omega)
  have h1 := first_xor x hx c
  rw [← hy] at h1
  have h2 := c32 c
  have hT : nextN x c = steps 8 y := by unfold nextN; rw [← hy]
  have HT := Lib.hid hT
  clear hT hy
  go_enter Try.func13, Try.ntmps13
  go_wp2
  go_step3
  go_wp2
  go_step3
  go_wp2
  clear h1 h2
  go_loop [0, 10] (fun v c => ∃ (i s : Nat), i ≤ 8 ∧ s < 4294967296 ∧ steps (8 - i) s = steps 8 y ∧ v = .int .u32 (s : Int) ∧ c = .int .i64 i) (fun _ c => 8 - (intOf c).toNat)
  case atStart => exact ⟨0, y, by omega, hyl, rfl, rfl, rfl⟩
  case round =>
    obtain ⟨i, s, hi, hs, hst, rfl, rfl⟩ := hrel
    have HS := Lib.hid hst
    clear hst
    by_cases hlt : i < 8
    · have hst2 : steps (8 - (i + 1)) (step s) = steps 8 y := by
        rw [← HS.out, show 8 - i = (8 - (i + 1)) + 1 by omega]; rfl
      have HS2 := Lib.hid hst2
      have hsl := step_lt hs
      clear hst2
      by_cases hodd : s % 2 = 1
      · have ho := step_odd s hs hodd
        have ho1 : ((s : Int) % 2 == 1) = true := by rw [beq_iff_eq]; omega
        clear hodd
        go_wp2
        go_round
        case rel => exact ⟨i + 1, step s, by omega, hsl, HS2.out, by first | rfl | rw [ho], by go_num⟩
        case measure => simp [intOf]; omega
      · have he : ((s : Int) / 2) = ((step s : Nat) : Int) := step_even s (by omega)
        have ho1 : ((s : Int) % 2 == 1) = false := by rw [beq_eq_false_iff_ne]; omega
        have HE := Lib.hid he
        clear hodd he
        go_wp2
        go_round
        case rel => exact ⟨i + 1, step s, by omega, hsl, HS2.out, by rw [← HE.out], by go_num⟩
        case measure => simp [intOf]; omega
    · obtain rfl : i = 8 := by omega
      have hfin : s = nextN x c := by rw [HT.out, ← HS.out]; rfl
      have HF := Lib.hid hfin
      clear hfin
      go_wp2
      go_ret
      exact ⟨ret_u32 HF.out, rfl⟩

set_option maxHeartbeats 1000000 in
theorem refNext_any (x : Nat) (hx : x < 4294967296) (c : UInt8) (w : World) :
    Calls Try.prog 14 #[.int .u32 x, .int .u8 (c.toNat : Nat)] w fun e w' => e = .returned (.int .u32 (nextN x c : Nat)) ∧ w = w' := by
  obtain ⟨y, hy⟩ : ∃ y, y = x ^^^ c.toNat := ⟨_, rfl⟩
  have hyl : y < 4294967296 := by rw [hy]; exact xor_lt32 hx (by have := c.toNat_lt; omega)
  have h1 := first_xor x hx c
  rw [← hy] at h1
  have h2 := c32 c
  have hT : nextN x c = steps 8 y := by unfold nextN; rw [← hy]
  have HT := Lib.hid hT
  clear hT hy
  go_enter Try.func14, Try.ntmps14
  go_wp2
  clear h1 h2
  go_loop [0, 5] (fun v c => ∃ (i s : Nat), i ≤ 8 ∧ s < 4294967296 ∧ steps (8 - i) s = steps 8 y ∧ v = .int .u32 (s : Int) ∧ c = .int .i64 i) (fun _ c => 8 - (intOf c).toNat)
  case atStart => exact ⟨0, y, by omega, hyl, rfl, rfl, rfl⟩
  case round =>
    obtain ⟨i, s, hi, hs, hst, rfl, rfl⟩ := hrel
    have HS := Lib.hid hst
    clear hst
    by_cases hlt : i < 8
    · have hst2 : steps (8 - (i + 1)) (step s) = steps 8 y := by
        rw [← HS.out, show 8 - i = (8 - (i + 1)) + 1 by omega]; rfl
      have HS2 := Lib.hid hst2
      have hsl := step_lt hs
      clear hst2
      by_cases hodd : s % 2 = 1
      · have ho := step_odd s hs hodd
        have ho1 : ((s : Int) % 2 == 1) = true := by rw [beq_iff_eq]; omega
        clear hodd
        go_wp2
        go_round
        case rel => exact ⟨i + 1, step s, by omega, hsl, HS2.out, by first | rfl | rw [ho], by go_num⟩
        case measure => simp [intOf]; omega
      · have he : ((s : Int) / 2) = ((step s : Nat) : Int) := step_even s (by omega)
        have ho1 : ((s : Int) % 2 == 1) = false := by rw [beq_eq_false_iff_ne]; omega
        have HE := Lib.hid he
        clear hodd he
        go_wp2
        go_round
        case rel => exact ⟨i + 1, step s, by omega, hsl, HS2.out, by rw [← HE.out], by go_num⟩
        case measure => simp [intOf]; omega
    · obtain rfl : i = 8 := by omega
      have hfin : s = nextN x c := by rw [HT.out, ← HS.out]; rfl
      have HF := Lib.hid hfin
      clear hfin
      go_wp2
      go_ret
      exact ⟨ret_u32 HF.out, rfl⟩
end Go.Proofs.Ytfkojcaefhknnaa
