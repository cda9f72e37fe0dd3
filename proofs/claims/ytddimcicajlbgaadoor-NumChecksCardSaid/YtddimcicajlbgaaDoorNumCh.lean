/- The law NumChecks returns true for every input, where the listed variables of strconv hold what their initialisers lay. -/
import Derived.Test.YtddimcicajlbgaaDoorNumF
namespace Go.Proofs.YtddimcicajlbgaaDoor
open Go.RowKit Go.Lib

set_option maxHeartbeats 2000000 in
theorem numChecks_law (w : World) (hL : Laid w) (v : Value) (l : List UInt8) (hv : IsArg w v l) (n : Int) (hn : -9223372036854775808 ≤ n ∧ n ≤ 9223372036854775807) (s : ByteArray) (hs : s.size ≤ 281474976710656) :
    Calls Tryd.prog 5 #[v, .int .i64 n, .string s] w fun e w' => e = .returned (.bool true) ∧ Below w.heap.size w w' := by
  have HV := Lib.hid hv.1
  obtain ⟨a, c, rfl⟩ := hv.1.shape
  clear hv
  by_cases h1 : 3000 < l.length
  · go_enter Tryd.func5, Tryd.ntmps5
    go_wp2_with (go_at_call 8; refine (heads_any _ hL).mono ?_; rintro e w' ⟨rfl, hb⟩)
    go_ret
    exact ⟨rfl, hb⟩
  · by_cases h2 : 300 < s.size
    · go_enter Tryd.func5, Tryd.ntmps5
      go_wp2_with (go_at_call 8; refine (heads_any _ hL).mono ?_; rintro e w' ⟨rfl, hb⟩)
      go_ret
      exact ⟨rfl, hb⟩
    · have HL := Lib.hid hL
      have hlm : l.length ≤ 1000000 := by omega
      clear hL
      go_enter Tryd.func5, Tryd.ntmps5
      go_wp2_with fail
      refine (parse_any s hs _ HL.out).mono ?_
      rintro e w1 ⟨x, b, rfl, hp, hb1⟩
      have HP := Lib.hid hp
      have HB1 := Lib.hid hb1
      clear hp hb1
      go_wp2_with fail
      refine (refParse_any s hs _).mono ?_
      rintro e w2 ⟨y, b2, rfl, hp2, hb2⟩
      obtain ⟨rfl, rfl⟩ := pr_unique HP.out hp2
      have HB2 := Lib.hid (HB1.out.trans (hb2.mono HB1.out.size))
      clear hp2 hb2 HP HB1
      go_wp2_with fail
      refine (check_any _ l _ (HV.out.below HB2.out) hlm).mono ?_
      rintro e w' ⟨rfl, rfl⟩
      go_wp2_with fail
      refine (refCheck_any _ l _ (HV.out.below HB2.out) hlm).mono ?_
      rintro e w' ⟨rfl, rfl⟩
      go_wp2_with fail
      refine (dec_any n hn _ (HL.out.below HB2.out)).mono ?_
      rintro e w3 ⟨rfl, hb3⟩
      have HB3 := Lib.hid (HB2.out.trans (hb3.mono HB2.out.size))
      clear hb3 HB2
      go_wp2_with fail
      refine (refDec_any n hn _).mono ?_
      rintro e w4 ⟨rfl, hb4⟩
      have HB4 := Lib.hid (HB3.out.trans (hb4.mono HB3.out.size))
      clear hb4 HB3
      cases b
      all_goals
        go_wp2_with fail
        refine (heads_any _ (HL.out.below HB4.out)).mono ?_
        rintro e w5 ⟨rfl, hb5⟩
        go_wp2
        go_ret
        exact ⟨rfl, HB4.out.trans (hb5.mono HB4.out.size)⟩
end Go.Proofs.YtddimcicajlbgaaDoor
