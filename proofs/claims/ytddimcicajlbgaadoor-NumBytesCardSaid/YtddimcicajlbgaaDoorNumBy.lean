/- The law NumBytes returns true for every input, where the listed variables of strconv hold what their initialisers lay. -/
import Derived.Test.YtddimcicajlbgaaDoorNumO
namespace Go.Proofs.YtddimcicajlbgaaDoor
open Go.RowKit Go.Lib

set_option maxHeartbeats 2000000 in
theorem numBytes_law (w : World) (hL : Laid w) (n : Nat) (hn : n < 18446744073709551616) (z : Int) (_hz : -9223372036854775808 ≤ z ∧ z ≤ 9223372036854775807) (v : Value) (l : List UInt8) (hv : IsBytes w v l) :
    Calls Tryd.prog 4 #[.int .u64 n, .int .i64 z, v] w fun e w' => e = .returned (.bool true) ∧ Below w.heap.size w w' := by
  obtain ⟨a, c, rfl⟩ := hv.shape
  obtain ⟨k, hc, hk⟩ := clamped z
  have HC := Lib.hid hc
  clear hc
  by_cases hl : 100 < l.length
  · go_enter Tryd.func4, Tryd.ntmps4
    go_wp2_with (go_at_call 8; refine (heads_any _ hL).mono ?_; rintro e w' ⟨rfl, hb⟩)
    go_ret
    exact ⟨rfl, hb⟩
  · have HB0 := Lib.hid (Below.refl w.heap.size w)
    go_enter Tryd.func4, Tryd.ntmps4
    go_wp2_with fail
    refine (le_any n z k HC.out _).mono ?_
    rintro e w1 ⟨x, rfl, hox, hb⟩
    have hx := isBytes_of_owns (l := leB n k) (by rw [leB_length]; exact hox)
    clear hox
    have hL1 := hL.below hb
    have hv1 := hv.below hb
    have HB1 := Lib.hid (HB0.out.trans (hb.mono HB0.out.size))
    clear hb hL hv HB0
    go_wp2_with fail
    refine (refLe_any n z k HC.out hn _).mono ?_
    rintro e w2 ⟨y, rfl, hoy, hb⟩
    have hy := isBytes_of_owns (l := leB n k) (by rw [leB_length]; exact hoy)
    clear hoy
    have hL2 := hL1.below hb
    have hv2 := hv1.below hb
    have HB2 := Lib.hid (HB1.out.trans (hb.mono HB1.out.size))
    have hx := hx.below hb
    clear hb hL1 hv1 HB1
    go_wp2_with fail
    refine (bytes_same _ _ (leB n k) _ hx hy).mono ?_
    rintro e w' ⟨rfl, rfl⟩
    clear hx hy
    go_wp2_with fail
    refine (be_any n z k HC.out _).mono ?_
    rintro e w3 ⟨x, rfl, hox, hb⟩
    have hx := isBytes_of_owns (l := beB n k) (by rw [beB_length]; exact hox)
    clear hox
    have hL3 := hL2.below hb
    have hv3 := hv2.below hb
    have HB3 := Lib.hid (HB2.out.trans (hb.mono HB2.out.size))
    clear hb hL2 hv2 HB2
    go_wp2_with fail
    refine (refBe_any n z k HC.out hn _).mono ?_
    rintro e w4 ⟨y, rfl, hoy, hb⟩
    have hy := isBytes_of_owns (l := beB n k) (by rw [beB_length]; exact hoy)
    clear hoy
    have hL4 := hL3.below hb
    have hv4 := hv3.below hb
    have HB4 := Lib.hid (HB3.out.trans (hb.mono HB3.out.size))
    have hx := hx.below hb
    clear hb hL3 hv3 HB3
    go_wp2_with fail
    refine (bytes_same _ _ (beB n k) _ hx hy).mono ?_
    rintro e w' ⟨rfl, rfl⟩
    clear hx hy
    go_wp2_with fail
    refine (fromLe_any _ l _ hv4).mono ?_
    rintro e w5 ⟨rfl, hb⟩
    have hL5 := hL4.below hb
    have hv5 := hv4.below hb
    have HB5 := Lib.hid (HB4.out.trans (hb.mono HB4.out.size))
    clear hb hL4 hv4 HB4
    go_wp2_with fail
    refine (refFromLe_any _ l _ hv5).mono ?_
    rintro e w' ⟨rfl, rfl⟩
    go_wp2_with fail
    refine (fromBe_any _ l _ hv5).mono ?_
    rintro e w6 ⟨rfl, hb⟩
    have hL6 := hL5.below hb
    have hv6 := hv5.below hb
    have HB6 := Lib.hid (HB5.out.trans (hb.mono HB5.out.size))
    clear hb hL5 hv5 HB5
    go_wp2_with fail
    refine (refFromBe_any _ l _ hv6).mono ?_
    rintro e w' ⟨rfl, rfl⟩
    go_wp2_with fail
    refine (heads_any _ hL6).mono ?_
    rintro e w' ⟨rfl, hb⟩
    go_wp2
    go_ret
    exact ⟨rfl, HB6.out.trans (hb.mono HB6.out.size)⟩
end Go.Proofs.YtddimcicajlbgaaDoor
