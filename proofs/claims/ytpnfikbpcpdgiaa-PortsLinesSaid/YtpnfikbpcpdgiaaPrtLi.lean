/- The law PortsLines returns true for every input. -/
import Derived.Test.YtpnfikbpcpdgiaaPrtH
namespace Go.Proofs.Ytpnfikbpcpdgiaa
open Go.RowKit Go.Lib

/-- What the loop knows of its lines: those up to the last one that was done are not both raised and heard. -/
def Gone (L M : Nat) (last : Int) : Prop := ∀ j : Nat, (j : Int) ≤ last → (L &&& M).testBit j = false
theorem gone_next {L M j : Nat} (hL : L < 4294967296) (hj : j ≤ 31) (h : ∀ i, 0 ≤ i → i < j → (L &&& M).testBit i = false) : Gone (clrB L j) M (j : Int) := by
  intro i hi
  rw [Nat.testBit_and, clr_bit hj hL]
  by_cases he : j = i
  · rw [decide_eq_true he]
    cases L.testBit i <;> rfl
  · have h2 := h i (Nat.zero_le _) (by omega)
    rw [Nat.testBit_and] at h2
    rw [decide_eq_false he, Bool.not_false, Bool.and_true]
    exact h2
theorem clr_and {L j : Nat} (hL : L < 4294967296) (hj : j ≤ 31) : clrB L j &&& 2 ^ j = 0 := by
  rw [bit_at, clr_bit hj hL, decide_eq_true rfl]
  cases L.testBit j <;> rfl
set_option maxHeartbeats 8000000 in
set_option maxRecDepth 100000 in
theorem portsLines_law (w : World) (L : Nat) (hL : L < 4294967296) (M : Nat) (hM : M < 4294967296) (T : Nat) (v : Value) (l : List UInt8) (hv : IsArg w v l) :
    Calls Try.prog 3 #[.agg #[.int .u32 (L : Nat), .int .u32 (M : Nat), .int .u64 (T : Nat), v]] w fun e w' => e = .returned (.bool true) ∧ Below w.heap.size w w' := by
  have BW := Lib.hid (Below.refl w.heap.size w)
  have HV := Lib.hid hv
  obtain ⟨a, n, c, rfl, hn⟩ := hv.shape3
  have HN := Lib.hid (show n ≤ maxLen by rw [hn]; exact arg_len hv)
  have HNL := Lib.hid hn.symm
  have DP := Lib.hid (show Firm w w (.slice a n c) l from .inl hv)
  clear hv hn
  cases hk : chkP T n with
  | false =>
    have HK := Lib.hid hk
    clear hk
    have hbx : Below (w).heap.size (w) ((w).alloc (.cells #[.int .u32 (L : Nat), .int .u32 (M : Nat), .int .u64 (T : Nat), .slice a n c] 26)) := (Below.refl _ _).alloc (Nat.le_refl _) _
    replace BW := Lib.hid (BW.out.trans (hbx.mono BW.out.size))
    have Rp := Lib.hid (heap_alloc_new (w) (.cells #[.int .u32 (L : Nat), .int .u32 (M : Nat), .int .u64 (T : Nat), .slice a n c] 26))
    clear hbx
    go_enter Try.func3, Try.ntmps3
    obtain ⟨lRp0, lRp1, lRp2, lRp3⟩ := four Rp.out
    go_wp2_with fail
    refine (refCheck_any _ _ _ _ _ _ HN.out _ HK.out _).mono ?_
    rintro e w1 ⟨rfl, hb⟩
    clear lRp0 lRp1 lRp2 lRp3
    replace BW := Lib.hid (BW.out.trans (hb.mono BW.out.size))
    replace Rp := Lib.hid (row_keep Rp.out hb)
    clear hb
    go_wp2_with fail
    refine (heads_any _).mono ?_
    rintro e w2 ⟨rfl, hb⟩
    replace BW := Lib.hid (BW.out.trans (hb.mono BW.out.size))
    replace Rp := Lib.hid (row_keep Rp.out hb)
    clear hb
    go_wp2
    go_ret
    exact ⟨rfl, BW.out⟩
  | true =>
    have HK := Lib.hid hk
    have HLL := Lib.hid (show l.length ≤ 140737488355328 by
      have := (chkP_true.1 hk).2
      rw [HNL.out]
      omega)
    clear hk
    have hbx : Below (w).heap.size (w) ((w).alloc (.cells #[.int .u32 (L : Nat), .int .u32 (M : Nat), .int .u64 (T : Nat), .slice a n c] 26)) := (Below.refl _ _).alloc (Nat.le_refl _) _
    replace BW := Lib.hid (BW.out.trans (hbx.mono BW.out.size))
    replace DP := Lib.hid (DP.out.below hbx)
    have Rp := Lib.hid (heap_alloc_new (w) (.cells #[.int .u32 (L : Nat), .int .u32 (M : Nat), .int .u64 (T : Nat), .slice a n c] 26))
    clear hbx
    go_enter Try.func3, Try.ntmps3
    obtain ⟨lRp0, lRp1, lRp2, lRp3⟩ := four Rp.out
    go_wp2_with fail
    refine (refCheck_any _ _ _ _ _ _ HN.out _ HK.out _).mono ?_
    rintro e w1 ⟨rfl, hb⟩
    clear lRp0 lRp1 lRp2 lRp3
    replace BW := Lib.hid (BW.out.trans (hb.mono BW.out.size))
    replace DP := Lib.hid (DP.out.below hb)
    replace Rp := Lib.hid (row_keep Rp.out hb)
    clear hb
    go_wp2
    go_loopw [3, 4] (fun x y wr => ∃ (i : Nat) (t : Int) (m : Nat) (a2 : Option Addr) (c2 : Nat), x = .int .i64 t ∧ y = .int .i64 i ∧ (-1 ≤ t ∧ t ≤ 31 ∧ (i : Int) ≤ t + 1 ∧ m < 4294967296) ∧ Gone m M t ∧ wr.heap[w.heap.size]? = some (.cells #[.int .u32 (m : Nat), .int .u32 (M : Nat), .int .u64 (T : Nat), .slice a2 n c2] 26 (0, 0)) ∧ Firm w wr (.slice a2 n c2) l ∧ Below w.heap.size w wr) (fun _ y _ => 33 - (intOf y).toNat)
    case atStart => exact ⟨0, -1, L, a, c, rfl, rfl, ⟨by omega, by omega, by omega, hL⟩, (fun j hj => by omega), Rp.out, DP.out, BW.out⟩
    case round =>
      obtain ⟨i, t, m, a2, c2, rfl, rfl, ⟨t1, t2, t3, hm⟩, hgone, hrow, hfirm, hbw⟩ := hrel
      have BWi := Lib.hid hbw
      have Ri := Lib.hid hrow
      have Di := Lib.hid hfirm
      have HG := Lib.hid hgone
      have hi33 : (i : Int) < 33 := by omega
      clear hgone hrow hfirm hbw
      obtain ⟨x, hx⟩ : ∃ x, x = m &&& M := ⟨_, rfl⟩
      have hxl : x < 4294967296 := by rw [hx]; exact Nat.lt_of_le_of_lt Nat.and_le_left hm
      have HAND := Lib.hid (show bits BinOp.and IntKind.u32 (m : Int) (M : Int) = (x : Int) by rw [hx]; exact u32_and_nat m M hm hM)
      have HX := Lib.hid hx
      have hR : pendP m M T n = pendN x 0 32 := by rw [pendP, if_pos HK.out, hx]
      rcases pendN_spec x 32 0 with ⟨j, hp, _, hj, hjb, hjl⟩ | ⟨hp, hz⟩
      · rw [hp] at hR
        have HR := Lib.hid hR
        clear hR hp hx
        have hj2 : j ≤ 31 := by omega
        have htj : t < (j : Int) := by
          rcases Int.lt_or_le t (j : Int) with h | h
          · exact h
          · have := HG.out j h
            rw [← HX.out, hjb] at this
            cases this
        obtain ⟨b, hb⟩ : ∃ b, b = 2 ^ j := ⟨_, rfl⟩
        have hbl : b < 4294967296 := by rw [hb]; exact pow_lt32 hj2
        have HPM := Lib.hid (show ((2 : Int) ^ j % 4294967296) = (b : Int) by rw [hb]; exact pow_mod j hj2)
        obtain ⟨y, hy⟩ : ∃ y, y = x &&& b := ⟨_, rfl⟩
        have HXB := Lib.hid (show bits BinOp.and IntKind.u32 (x : Int) (b : Int) = (y : Int) by rw [hy]; exact u32_and_nat x b hxl hbl)
        have HYN := Lib.hid (show ((y : Int) == 0) = false from by
          rw [beq_eq_false_iff_ne]
          intro h
          have h2 : x &&& 2 ^ j = 0 := by rw [← hb, ← hy]; exact Int.ofNat_eq_zero.1 h
          rw [bit_at, hjb] at h2
          cases h2)
        have HT1 := Lib.hid (show decide ((j : Int) < 0) = false from decide_eq_false (by omega))
        have HT2 := Lib.hid (show decide ((j : Int) ≤ t) = false from decide_eq_false (by omega))
        have HT3 := Lib.hid (show decide ((31 : Int) < (j : Int)) = false from decide_eq_false (by omega))
        obtain ⟨m2, hm2⟩ : ∃ m2, m2 = clrB m j := ⟨_, rfl⟩
        have hm2l : m2 < 4294967296 := by rw [hm2]; exact clrB_lt hm
        have HMB := Lib.hid (show bits BinOp.and IntKind.u32 (m2 : Int) (b : Int) = 0 by rw [u32_and_nat m2 b hm2l hbl, hm2, hb, clr_and hm hj2]; rfl)
        have hF0 : lineP T n (j : Int) = 0 := by rw [lineP, if_pos HK.out, if_pos ⟨by omega, by omega⟩]
        have HD0 := Lib.hid (show lineP T l.length (j : Int) = 0 by rw [HNL.out]; exact hF0)
        have HD1 := Lib.hid (show doneP m T l.length (j : Int) = m2 by rw [HNL.out, doneP, if_pos hF0, Int.toNat_natCast, hm2])
        have HG2 := Lib.hid (show Gone m2 M (j : Int) by rw [hm2]; exact gone_next hm hj2 (by rw [← HX.out]; exact hjl))
        clear hb hy hm2 hF0 hjb hjl
        obtain ⟨lRi0, lRi1, lRi2, lRi3⟩ := four Ri.out
        go_wp2_with fail
        refine (pending_any m M T hm hM _ n _ HN.out _ HR.out _).mono ?_
        rintro e w11 ⟨rfl, hb⟩
        clear lRi0 lRi1 lRi2 lRi3
        replace BWi := Lib.hid (BWi.out.trans (hb.mono BWi.out.size))
        replace Ri := Lib.hid (row_keep Ri.out hb)
        replace Di := Lib.hid (Di.out.below hb)
        clear hb
        obtain ⟨lRi0, lRi1, lRi2, lRi3⟩ := four Ri.out
        have e1 := HAND.out
        have e2 := HPM.out
        have e3 := HXB.out
        have e4 := HYN.out
        have e6 := HT1.out
        have e7 := HT2.out
        have e8 := HT3.out
        go_wp2_with fail
        refine (done_this m M T hm l n HNL.out HLL.out (j : Int) 0 HD0.out m2 HD1.out w _ BWi.out _ (Di.out.arg BWi.out)).mono ?_
        rintro e w20 ⟨aq, cq, rfl, hd, hb⟩
        clear e1 e3 e4 e6 e7 e8
        clear lRi0 lRi1 lRi2 lRi3
        replace BWi := Lib.hid (BWi.out.trans (hb.mono BWi.out.size))
        replace Ri := Lib.hid (row_keep Ri.out hb)
        replace Di := Lib.hid (Di.out.below hb)
        have Dq := Lib.hid hd
        have hlt : w.heap.size < w20.heap.size := (Array.getElem?_eq_some_iff.1 Ri.out).1
        clear hd hb
        obtain ⟨lRi0, lRi1, lRi2, lRi3⟩ := four Ri.out
        obtain ⟨zRi0, zRi1, zRi2, zRi3⟩ := free4 Ri.out
        have e5 := HMB.out
        go_wp2
        clear lRi0 lRi1 lRi2 lRi3 zRi0 zRi1 zRi2 zRi3
        clear e2 e5
        go_roundw
        case rel => exact ⟨i + 1, (j : Int), m2, aq, cq, rfl, by go_num, ⟨by omega, by omega, by omega, hm2l⟩, HG2.out, row_keep (put4_row Ri.out) ((Below.refl _ _).alloc (Nat.le_refl _) _), ((Dq.out.put4 Ri.out).below ((Below.refl _ _).alloc (Nat.le_refl _) _)), (put4_below BWi.out (Nat.le_refl _)).alloc (by show w.heap.size ≤ (put4 w20 _ _ _ _ _).heap.size; rw [put4_size]; omega) _⟩
        case measure => simp [intOf]; omega
      · rw [hp] at hR
        have HR := Lib.hid hR
        have hx0 : x = 0 := and_zero hxl (fun i hi => hz i (Nat.zero_le _) (by omega))
        have HA0 := Lib.hid (show bits BinOp.and IntKind.u32 (m : Int) (M : Int) = 0 by rw [HAND.out, hx0]; rfl)
        clear hR hp hx hz hx0
        obtain ⟨lRi0, lRi1, lRi2, lRi3⟩ := four Ri.out
        go_wp2_with fail
        refine (pending_any m M T hm hM _ n _ HN.out _ HR.out _).mono ?_
        rintro e w31 ⟨rfl, hb⟩
        clear lRi0 lRi1 lRi2 lRi3
        replace BWi := Lib.hid (BWi.out.trans (hb.mono BWi.out.size))
        replace Ri := Lib.hid (row_keep Ri.out hb)
        replace Di := Lib.hid (Di.out.below hb)
        clear hb
        obtain ⟨lRi0, lRi1, lRi2, lRi3⟩ := four Ri.out
        have e1 := HA0.out
        go_wp2_with fail
        refine (heads_any _).mono ?_
        rintro e w32 ⟨rfl, hb⟩
        clear lRi0 lRi1 lRi2 lRi3
        replace BWi := Lib.hid (BWi.out.trans (hb.mono BWi.out.size))
        replace Ri := Lib.hid (row_keep Ri.out hb)
        replace Di := Lib.hid (Di.out.below hb)
        clear hb
        clear e1
        go_wp2
        go_ret
        exact ⟨rfl, BWi.out⟩
end Go.Proofs.Ytpnfikbpcpdgiaa
