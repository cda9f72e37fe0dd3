/- What the turning of a word to the right answers, in the program and in the document's own. -/
import Derived.Test.YtfaiblngchdpmaaDoorArg
import Derived.Test.YtfaiblngchdpmaaDoorShaM
import Derived.Laws.BitsAllLaws
import Derived.WalkMore
namespace Go.Proofs.YtfaiblngchdpmaaDoor
open Go.RowKit Go.Lib

theorem rotR_lt {x n : Nat} (h : x < 4294967296) : rotR x n < 4294967296 := by
  unfold rotR m32
  refine Nat.or_lt_two_pow (n := 32) ?_ (Nat.mod_lt _ (by decide))
  rw [Nat.shiftRight_eq_div_pow]
  exact Nat.lt_of_le_of_lt (Nat.div_le_self _ _) h
theorem shr_cast (x n : Nat) : ((x : Int) / 2 ^ n) = ((x >>> n : Nat) : Int) := by
  rw [Nat.shiftRight_eq_div_pow, Int.natCast_ediv, Int.natCast_pow]; rfl
theorem shl_cast (x m : Nat) : ((x : Int) * 2 ^ m % 4294967296) = (((x <<< m) % m32 : Nat) : Int) := by
  rw [Nat.shiftLeft_eq, Int.natCast_emod, Int.natCast_mul, Int.natCast_pow]; rfl
theorem rot_or (x n : Nat) (h : x < 4294967296) : bits BinOp.or IntKind.u32 ((x : Int) / 2 ^ n) ((x : Int) * 2 ^ (32 - n) % 4294967296) = ((rotR x n : Nat) : Int) := by
  rw [shr_cast, shl_cast, u32_or_nat (x >>> n) ((x <<< (32 - n)) % m32) (by rw [Nat.shiftRight_eq_div_pow]; exact Nat.lt_of_le_of_lt (Nat.div_le_self _ _) h) (Nat.mod_lt _ (by decide))]
  rfl
theorem or_rot (x n : Nat) (h : x < 4294967296) : bits BinOp.or IntKind.u32 ((x : Int) * 2 ^ (32 - n) % 4294967296) ((x : Int) / 2 ^ n) = ((rotR x n : Nat) : Int) := by
  rw [shr_cast, shl_cast, u32_or_nat ((x <<< (32 - n)) % m32) (x >>> n) (Nat.mod_lt _ (by decide)) (by rw [Nat.shiftRight_eq_div_pow]; exact Nat.lt_of_le_of_lt (Nat.div_le_self _ _) h), Nat.or_comm]
  rfl
theorem neg_and (n : Nat) (h0 : 0 < n) (hn : n < 32) : bits BinOp.and IntKind.u64 (IntKind.u64.wrap (-(n : Int))) 31 = ((32 - n : Nat) : Int) := by
  have e1 : IntKind.u64.wrap (-(n : Int)) = ((18446744073709551616 - n : Nat) : Int) := by rw [wrap64u]; omega
  rw [e1, show (31 : Int) = ((31 : Nat) : Int) from rfl, u64_and_nat _ _ (by omega) (by decide), nat_mask5]
  congr 1
  omega
set_option maxHeartbeats 400000 in
theorem rotl_any (x n : Nat) (hx : x < 4294967296) (h0 : 0 < n) (hn : n < 32) (w : World) :
    Calls Tryd.prog 30 #[.int .u32 x, .int .i64 (-(n : Int))] w fun e w' => e = .returned (.int .u32 (rotR x n : Nat)) ∧ w = w' := by
  have h1 := neg_and n h0 hn
  obtain ⟨m, hm⟩ : ∃ m, m = 32 - n := ⟨_, rfl⟩
  rw [← hm] at h1
  have hr := or_rot x n hx
  rw [← hm] at hr
  obtain rfl : n = 32 - m := by omega
  have HR := Lib.hid hr
  have hm32 : m < 32 := by omega
  clear hm hr hn
  go_enter Tryd.func30, Tryd.ntmps30
  go_wp2
  go_ret
  exact ⟨by rw [HR.out]; rfl, rfl⟩
set_option maxHeartbeats 400000 in
theorem rot_any (x n : Nat) (hx : x < 4294967296) (h0 : 0 < n) (hn : n < 32) (w : World) :
    Calls Tryd.prog 21 #[.int .u32 x, .int .i64 n] w fun e w' => e = .returned (.int .u32 (rotR x n : Nat)) ∧ w = w' := by
  go_enter Tryd.func21, Tryd.ntmps21
  go_wp2_with (go_at_call 30; refine (rotl_any x n hx h0 hn _).mono ?_; rintro e w' ⟨rfl, rfl⟩)
  go_ret
  exact ⟨rfl, rfl⟩
set_option maxHeartbeats 400000 in
theorem refRot_any (x n : Nat) (hx : x < 4294967296) (h0 : 0 < n) (hn : n < 32) (w : World) :
    Calls Tryd.prog 22 #[.int .u32 x, .int .u64 n] w fun e w' => e = .returned (.int .u32 (rotR x n : Nat)) ∧ w = w' := by
  have HR := Lib.hid (rot_or x n hx)
  go_enter Tryd.func22, Tryd.ntmps22
  go_wp2
  go_ret
  exact ⟨by rw [HR.out]; rfl, rfl⟩
end Go.Proofs.YtfaiblngchdpmaaDoor
