/- What mem.Num and the document's own answer; what was there stays. -/
import Derived.Test.YtofeiheomnpggaaMemD
import Derived.Test.YtofeiheomnpggaaNumLo
import Derived.Test.YtofeiheomnpggaaRefLe
import Derived.Test.YtofeiheomnpggaaRefFromLe
namespace Go.Proofs.Ytofeiheomnpggaa
open Go.RowKit Go.Lib

/-- What is wrong with a number's size, or with its place. -/
def numFaultOf (L : Nat) (x y : Int) : Int := if sizeFaultOf L y = 0 then faultOf L x y else sizeFaultOf L y
def numOf (l : List UInt8) (x y : Int) : Nat := if sizeFaultOf l.length y = 0 then leN ((getOf l x y).take 8) else 0

set_option maxHeartbeats 1000000 in
theorem num_any (v : Value) (l : List UInt8) (w : World) (hv : IsArg w v l) (x y : Int) (hl : l.length ≤ maxLen) :
    Calls Try.prog 54 #[.agg #[v], .int .i64 x, .int .i64 y] w fun e w' => e = .returned (.tuple #[.int .u64 (numOf l x y), .int .i64 (numFaultOf l.length x y)]) ∧ Below w.heap.size w w' := by
  obtain ⟨a, c, rfl, hq1⟩ := hv.shape
  clear hq1
  have HL := Lib.hid hl
  have HV := Lib.hid hv
  have HBA := Lib.hid ((Below.refl w.heap.size w).alloc (Nat.le_refl _) (.cells #[.slice a l.length c] 28))
  obtain ⟨s, hs⟩ : ∃ s, s = sizeFaultOf l.length y := ⟨_, rfl⟩
  unfold numOf numFaultOf
  rw [← hs]
  have HS := Lib.hid hs
  clear hl hv
  by_cases h0 : s = 0
  · rw [if_pos h0, if_pos h0]
    subst h0
    clear hs
    go_enter Try.func54, Try.ntmps54
    go_wp2_with fail
    refine (sizeFault_any _ _ _ HL.out _ _).mono ?_
    rintro e w1 ⟨rfl, hb⟩
    rw [← HS.out]
    have hcl := box_cell hb
    have HB1 := Lib.hid (HBA.out.trans (hb.mono (by simp)))
    clear hb
    go_wp2_with fail
    refine (get_any _ _ _ (HV.out.below HB1.out) _ _ HL.out).mono ?_
    rintro e w2 ⟨r, rfl, hr, hb⟩
    have HB2 := Lib.hid (HB1.out.trans (hb.mono HB1.out.size))
    have HR := Lib.hid (isBytes_of_owns hr)
    clear hr hb hcl
    go_wp2_with fail
    refine (fromLe_any _ _ _ HR.out).mono ?_
    rintro e w3 ⟨rfl, hb⟩
    have HB3 := Lib.hid (HB2.out.trans (hb.mono HB2.out.size))
    clear hb
    go_wp2
    go_ret2
    exact ⟨rfl, HB3.out⟩
  · rw [if_neg h0, if_neg h0]
    clear hs
    go_enter Try.func54, Try.ntmps54
    go_wp2_with fail
    refine (sizeFault_any _ _ _ HL.out _ _).mono ?_
    rintro e w1 ⟨rfl, hb⟩
    rw [← HS.out]
    have HB1 := Lib.hid (HBA.out.trans (hb.mono (by simp)))
    clear hb
    go_wp2
    go_ret2
    exact ⟨rfl, HB1.out⟩

set_option maxHeartbeats 1000000 in
theorem refNum_any (v : Value) (l : List UInt8) (w : World) (hv : IsArg w v l) (x y : Int) (hl : l.length ≤ maxLen) :
    Calls Try.prog 56 #[.agg #[v], .int .i64 x, .int .i64 y] w fun e w' => e = .returned (.tuple #[.int .u64 (numOf l x y), .int .i64 (numFaultOf l.length x y)]) ∧ Below w.heap.size w w' := by
  obtain ⟨a, c, rfl, hq1⟩ := hv.shape
  clear hq1
  have HL := Lib.hid hl
  have HV := Lib.hid hv
  have HBA := Lib.hid ((Below.refl w.heap.size w).alloc (Nat.le_refl _) (.cells #[.slice a l.length c] 28))
  unfold numOf numFaultOf
  clear hl hv
  rcases size_cases l.length y with ⟨h0, h1⟩ | ⟨h0, h1, h2⟩ | ⟨h0, h1, h2, h3⟩
  · rw [h0, if_neg (by decide), if_neg (by decide)]
    have HC := Lib.hid (show false = decide (l.length ≤ 8192) from (decide_eq_false (by omega)).symm)
    clear h0 h1
    go_enter Try.func56, Try.ntmps56
    go_wp2_with fail
    refine (refCheck_any _ _ _ HL.out _ HC.out _).mono ?_
    rintro e w1 ⟨rfl, hb⟩
    have HB1 := Lib.hid (HBA.out.trans (hb.mono (by simp)))
    clear hb
    go_wp2
    go_ret2
    exact ⟨rfl, HB1.out⟩
  · rw [h0, if_neg (by decide), if_neg (by decide)]
    have HC := Lib.hid (show true = decide (l.length ≤ 8192) from (decide_eq_true (by omega)).symm)
    clear h0 h1
    by_cases h4 : y < 1
    · clear h2
      go_enter Try.func56, Try.ntmps56
      go_wp2_with fail
      refine (refCheck_any _ _ _ HL.out _ HC.out _).mono ?_
      rintro e w1 ⟨rfl, hb⟩
      have HB1 := Lib.hid (HBA.out.trans (hb.mono (by simp)))
      clear hb
      go_wp2
      go_ret2
      exact ⟨rfl, HB1.out⟩
    · have h5 : 8 < y := by omega
      clear h2
      go_enter Try.func56, Try.ntmps56
      go_wp2_with fail
      refine (refCheck_any _ _ _ HL.out _ HC.out _).mono ?_
      rintro e w1 ⟨rfl, hb⟩
      have HB1 := Lib.hid (HBA.out.trans (hb.mono (by simp)))
      clear hb
      go_wp2
      go_ret2
      exact ⟨rfl, HB1.out⟩
  · rw [h0, if_pos rfl, if_pos rfl]
    have HC := Lib.hid (show true = decide (l.length ≤ 8192) from (decide_eq_true (by omega)).symm)
    have HY := Lib.hid (show -9223372036854775808 ≤ y ∧ y ≤ 9223372036854775807 by omega)
    clear h0 h1
    go_enter Try.func56, Try.ntmps56
    go_wp2_with fail
    refine (refCheck_any _ _ _ HL.out _ HC.out _).mono ?_
    rintro e w1 ⟨rfl, hb⟩
    have hcl := box_cell hb
    have HB1 := Lib.hid (HBA.out.trans (hb.mono (by simp)))
    clear hb
    go_wp2_with fail
    refine (refGet_any _ _ _ (HV.out.below HB1.out) _ _ HY.out HL.out).mono ?_
    rintro e w2 ⟨r, rfl, hr, hb⟩
    have HB2 := Lib.hid (HB1.out.trans (hb.mono HB1.out.size))
    have HR := Lib.hid (isBytes_of_owns hr)
    clear hr hb hcl
    go_wp2_with fail
    refine (refFromLe_any _ _ _ HR.out).mono ?_
    rintro e w3 ⟨rfl, rfl⟩
    go_wp2
    go_ret2
    exact ⟨rfl, HB2.out⟩
end Go.Proofs.Ytofeiheomnpggaa
