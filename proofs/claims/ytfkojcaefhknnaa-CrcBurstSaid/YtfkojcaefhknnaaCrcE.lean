/- What crc.Holds answers, for bytes of at most a million; what was there stays. -/
import Derived.Test.YtfkojcaefhknnaaCrcD
import Derived.Deep.RegionHeld3
namespace Go.Proofs.Ytfkojcaefhknnaa
open Go.RowKit Go.Lib

theorem holds_iff (l : List UInt8) (m : Nat) (hm : l.length = m + 4) : crcHolds l = decide (l.drop m = leB (crcOf (l.take m)) 4) := by
  unfold crcHolds
  rw [show l.length - 4 = m by omega, decide_eq_true (show 4 ≤ l.length by omega), Bool.true_and]
theorem holds_short (l : List UInt8) (h : l.length < 4) : crcHolds l = false := by
  unfold crcHolds
  rw [decide_eq_false (show ¬ 4 ≤ l.length by omega), Bool.false_and]

set_option maxHeartbeats 2000000 in
theorem holds_any (v : Value) (l : List UInt8) (w : World) (hv : IsBytes w v l) :
    Calls Try.prog 9 #[v] w fun e w' => e = .returned (.bool (crcHolds l)) ∧ Below w.heap.size w w' := by
  by_cases h4 : l.length < 4
  · obtain ⟨a, c, rfl⟩ := hv.shape
    rw [holds_short l h4]
    have hneg : (decide (4 ≤ (l.length : Int))) = false := by rw [decide_eq_false_iff_not]; omega
    clear hv
    go_enter Try.func9, Try.ntmps9
    go_wp2_with fail
    go_quiet (fail)
    go_wp2
    go_ret
    exact ⟨rfl, below_drewN (Below.refl _ _) _⟩
  · rcases hv with ⟨a0, c0, rfl, rfl⟩ | ⟨b, off, cap, rfl, hc1, hc2, hb, hcell⟩
    · simp at h4
    · obtain ⟨m, hm⟩ : ∃ m, l.length = m + 4 := ⟨l.length - 4, by omega⟩
      have hT : IsBytes w (.slice (some ⟨b, off, none⟩) m cap) (l.take m) := by
        have hl : (l.take m).length = m := by simp; omega
        refine .inr ⟨b, off, cap, by rw [hl], by omega, hc2, hb, fun i hi => ?_⟩
        rw [hl] at hi
        rw [hcell i (by omega)]
        simp [hi]
      have hD : IsBytes w (.slice (some ⟨b, off + m, none⟩) 4 (cap - m)) (l.drop m) := by
        have hl : (l.drop m).length = 4 := by simp; omega
        refine .inr ⟨b, off + m, cap - m, by rw [hl], by omega, by omega, hb, fun i hi => ?_⟩
        rw [hl] at hi
        rw [Nat.add_assoc, hcell (m + i) (by omega)]
        simp
      have hs1 : ∀ W, (Instr.slice 22 (.slice (some ⟨b, off, none⟩) (m + 4) cap) (some (.int .i64 m)) none none).run Try.prog W = .ok (.slice (some ⟨b, off + m, none⟩) 4 (cap - m)) W := fun W => by
        rw [slice_from (some ⟨b, off, none⟩) (m + 4) cap m (by omega) W, if_neg (by omega), show m + 4 - m = 4 by omega]
        simp only [Option.map_some, Addr.add_lit]
      have hs2 : ∀ W, (Instr.slice 22 (.slice (some ⟨b, off, none⟩) (m + 4) cap) none (some (.int .i64 m)) none).run Try.prog W = .ok (.slice (some ⟨b, off, none⟩) m cap) W := fun W => slice_to _ _ _ _ (by omega) W
      have hH := holds_iff l m hm
      rw [hm]
      rw [hH]
      unfold maxLen at hc2
      have HT := Lib.hid hT
      have HD := Lib.hid hD
      have hm63 : (m : Int) + 4 ≤ 9223372036854775807 := by omega
      clear hT hD hcell hm hH h4
      by_cases he : l.drop m = leB (crcOf (l.take m)) 4
      · rw [decide_eq_true he]
        have HE := Lib.hid he
        clear he
        go_enter Try.func9, Try.ntmps9
        go_wp2_with fail
        go_region_held3 (fun _ => True) (first | exact trivial) (first
          | (go_at_call 11; refine (of_any _ (l.take m) _ (HT.out.below (by first | exact Below.refl _ _ | exact (Below.refl _ _).drew))).mono ?_; rintro e w1 ⟨rfl, hb1⟩)
          | (go_at_call 18; refine (tail_row _ _).mono ?_; rintro e w2 ⟨g, rfl, hr2, hg2, hb2⟩; clear hg2; have HR2 := Lib.hid hr2; clear hr2)
          | (go_at_call 19; refine (equal_same _ _ (l.drop m) _ (by exact ((HD.out.below (by first | exact Below.refl _ _ | exact (Below.refl _ _).drew)).below hb1).below hb2) (by rw [HE.out]; exact isBytes_all HR2.out (leB_length _ 4) (by unfold maxLen; omega))).mono ?_; rintro e w3 ⟨rfl, rfl⟩))
        go_wp2
        go_ret
        exact ⟨rfl, (((Below.refl _ _).drew).trans hb1).trans (hb2.mono hb1.size)⟩
      · rw [decide_eq_false he]
        have HE := Lib.hid he
        clear he
        go_enter Try.func9, Try.ntmps9
        go_wp2_with fail
        go_region_held3 (fun _ => True) (first | exact trivial) (first
          | (go_at_call 11; refine (of_any _ (l.take m) _ (HT.out.below (by first | exact Below.refl _ _ | exact (Below.refl _ _).drew))).mono ?_; rintro e w1 ⟨rfl, hb1⟩)
          | (go_at_call 18; refine (tail_row _ _).mono ?_; rintro e w2 ⟨g, rfl, hr2, hg2, hb2⟩; clear hg2; have HR2 := Lib.hid hr2; clear hr2)
          | (go_at_call 19; refine (equal_other _ _ (l.drop m) (leB (crcOf (l.take m)) 4) _ (by exact ((HD.out.below (by first | exact Below.refl _ _ | exact (Below.refl _ _).drew)).below hb1).below hb2) (by exact isBytes_all HR2.out (leB_length _ 4) (by unfold maxLen; omega)) HE.out).mono ?_; rintro e w3 ⟨rfl, rfl⟩))
        go_wp2
        go_ret
        exact ⟨rfl, (((Below.refl _ _).drew).trans hb1).trans (hb2.mono hb1.size)⟩
end Go.Proofs.Ytfkojcaefhknnaa
