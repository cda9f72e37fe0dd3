/- What the examples of the law's package come to: true. -/
import Derived.Test.YtfkojcaefhknnaaCrcF
import Derived.Lib.SlBytesConst
namespace Go.Proofs.Ytfkojcaefhknnaa
open Go.RowKit Go.Lib

theorem sum_digits : crcOf [49, 50, 51, 52, 53, 54, 55, 56, 57] = 3808858755 := by decide +kernel
theorem sum_none : crcOf [] = 0 := by decide +kernel
theorem no_abc : crcHolds [97, 98, 99] = false := holds_short _ (by decide)
theorem no_abcdefgh : crcHolds [97, 98, 99, 100, 101, 102, 103, 104] = false := by decide +kernel

theorem isArg_new (w : World) (cs : Array Value) (t : TypeId) (fr : Nat × Nat) (l : List UInt8) (n : Nat) (h : cs.toList = byteCells l) (hn : n = l.length) (hm : n ≤ maxLen) :
    IsArg (w.alloc (.cells cs t fr)) (.slice (some ⟨w.heap.size, 0, none⟩) n n) l := by
  have hcs : cs = (byteCells l).toArray := by rw [← h]
  subst hcs
  exact isArg_of_row (heap_alloc_new w _) hn.symm hm
theorem closed_ab (v : Value) (w : World) (hv : IsArg w v [97, 98]) :
    Calls Try.prog 8 #[v] w fun e w' => ∃ a c, e = .returned (.slice a 6 c) ∧ IsBytes w' (.slice a 6 c) (crcClosed [97, 98]) ∧ Below w.heap.size w w' :=
  (closed_any v _ w hv (by decide)).mono fun e w' ⟨u, he, ho, hb⟩ => by
    have hi := isBytes_of_owns (l := crcClosed [97, 98]) (by rw [closed_length]; exact ho)
    obtain ⟨a, c, hs⟩ := hi.shape
    rw [closed_length] at hs
    subst hs
    exact ⟨a, c, he, hi, hb⟩
theorem of_digits (v : Value) (w : World) (hv : IsBytes w v [49, 50, 51, 52, 53, 54, 55, 56, 57]) : Calls Try.prog 11 #[v] w fun e w' => e = .returned (.int .u32 3808858755) ∧ Below w.heap.size w w' := by
  have h := of_any v _ w hv
  rw [sum_digits] at h
  exact h
theorem of_none (w : World) : Calls Try.prog 11 #[.slice none 0 0] w fun e w' => e = .returned (.int .u32 0) ∧ Below w.heap.size w w' := by
  have h := of_any (.slice none 0 0) [] w (.inl ⟨none, 0, rfl, rfl⟩)
  rw [sum_none] at h
  exact h
theorem holds_ab (v : Value) (w : World) (hv : IsBytes w v (crcClosed [97, 98])) : Calls Try.prog 9 #[v] w fun e w' => e = .returned (.bool true) ∧ Below w.heap.size w w' := by
  have h := holds_any v _ w hv
  rw [holds_closed] at h
  exact h
theorem holds_abc (v : Value) (w : World) (hv : IsBytes w v [97, 98, 99]) : Calls Try.prog 9 #[v] w fun e w' => e = .returned (.bool false) ∧ Below w.heap.size w w' := by
  have h := holds_any v _ w hv
  rw [no_abc] at h
  exact h
theorem holds_abcdefgh (v : Value) (w : World) (hv : IsBytes w v [97, 98, 99, 100, 101, 102, 103, 104]) : Calls Try.prog 9 #[v] w fun e w' => e = .returned (.bool false) ∧ Below w.heap.size w w' := by
  have h := holds_any v _ w hv
  rw [no_abcdefgh] at h
  exact h

set_option maxHeartbeats 1000000 in
theorem heads_any (w : World) : Calls Try.prog 7 #[] w fun e w' => e = .returned (.bool true) ∧ Below w.heap.size w w' := by
  have kc := fun (w : World) (C : Array Value) (n c : Nat) => Lib.run_convert_bytes_const (P := Try.prog) w 22 5 C n c Try.underlying22 Try.underlying5
  go_enter Try.func7, Try.ntmps7
  go_wp2_with fail
  refine (closed_ab _ _ (isArg_new _ #[.int .u8 97, .int .u8 98] _ _ [97, 98] 2 rfl rfl (by decide))).mono ?_
  rintro e w1 ⟨a, c, rfl, hu, hb⟩
  have HB1 := Lib.hid (((Below.refl _ _).alloc (Nat.le_refl _) _).trans (hb.mono (show w.heap.size ≤ _ by simp)))
  clear hb
  go_wp2_with fail
  refine (of_digits _ _ (isBytes_new _ #[.int .u8 49, .int .u8 50, .int .u8 51, .int .u8 52, .int .u8 53, .int .u8 54, .int .u8 55, .int .u8 56, .int .u8 57] _ _ [49, 50, 51, 52, 53, 54, 55, 56, 57] 9 rfl rfl (by decide))).mono ?_
  rintro e w2 ⟨rfl, hb⟩
  have hB : Below w1.heap.size w1 w2 := ((Below.refl _ _).alloc (Nat.le_refl _) _).trans (hb.mono (by simp))
  have hu2 := hu.below hB
  have HB2 := Lib.hid (HB1.out.trans (hB.mono HB1.out.size))
  clear hb hB hu HB1
  go_wp2_with fail
  refine (of_none _).mono ?_
  rintro e w3 ⟨rfl, hb⟩
  have hu3 := hu2.below hb
  have HB3 := Lib.hid (HB2.out.trans (hb.mono HB2.out.size))
  clear hb hu2 HB2
  go_wp2_with fail
  refine (holds_ab _ _ hu3).mono ?_
  rintro e w4 ⟨rfl, hb⟩
  have HB4 := Lib.hid (HB3.out.trans (hb.mono HB3.out.size))
  clear hb hu3 HB3
  go_wp2_with fail
  refine (holds_abc _ _ (isBytes_new _ #[.int .u8 97, .int .u8 98, .int .u8 99] _ _ [97, 98, 99] 3 rfl rfl (by decide))).mono ?_
  rintro e w5 ⟨rfl, hb⟩
  have hB : Below w4.heap.size w4 w5 := ((Below.refl _ _).alloc (Nat.le_refl _) _).trans (hb.mono (by simp))
  have HB5 := Lib.hid (HB4.out.trans (hB.mono HB4.out.size))
  clear hb hB HB4
  go_wp2_with fail
  refine (holds_abcdefgh _ _ (isBytes_new _ #[.int .u8 97, .int .u8 98, .int .u8 99, .int .u8 100, .int .u8 101, .int .u8 102, .int .u8 103, .int .u8 104] _ _ [97, 98, 99, 100, 101, 102, 103, 104] 8 rfl rfl (by decide))).mono ?_
  rintro e w6 ⟨rfl, hb⟩
  have hB : Below w5.heap.size w5 w6 := ((Below.refl _ _).alloc (Nat.le_refl _) _).trans (hb.mono (by simp))
  have HB6 := Lib.hid (HB5.out.trans (hB.mono HB5.out.size))
  clear hb hB HB5
  go_wp2
  go_ret
  exact ⟨rfl, HB6.out⟩
end Go.Proofs.Ytfkojcaefhknnaa
