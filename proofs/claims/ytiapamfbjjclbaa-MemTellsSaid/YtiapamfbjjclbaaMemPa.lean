/- The law MemParts returns true for every input. -/
import Derived.Test.YtiapamfbjjclbaaMemH
import Derived.Test.YtiapamfbjjclbaaAppW
namespace Go.Proofs.Ytiapamfbjjclbaa
open Go.RowKit Go.Lib

theorem arg_max {w : World} {v : Value} {l : List UInt8} (h : IsArg w v l) : l.length ≤ maxLen := by
  by_cases h0 : l = []
  · subst h0; exact Nat.zero_le _
  · obtain ⟨a, c, rfl, _⟩ := h.shape
    have := h.1.cap h0
    omega
/-- Two parts side by side. -/
theorem getOf_join (l : List UInt8) (x n k : Nat) (h : x + (n + k) ≤ l.length) (hl : l.length ≤ 8192) : getOf l x ((n + k : Nat) : Int) = getOf l x n ++ getOf l ((x + n : Nat) : Int) k := by
  rw [getOf_some (fault_of hl (by omega) (by omega) (by omega) (by omega)), getOf_some (fault_of hl (by omega) (by omega) (by omega) (by omega)), getOf_some (fault_of hl (by omega) (by omega) (by omega) (by omega))]
  simp only [Int.toNat_natCast]
  rw [List.take_add, List.drop_drop]

set_option maxHeartbeats 1000000 in
theorem memParts_out (w : World) (v : Value) (l : List UInt8) (hv : IsArg w v l) (x : Int) (n : Int) (k : Int) (h : 3000 < l.length ∨ n < 0 ∨ 100 < n ∨ k < 0 ∨ 100 < k) :
    Calls Try.prog 3 #[.agg #[v], .int .i64 x, .int .i64 n, .int .i64 k] w fun e w' => e = .returned (.bool true) ∧ Below w.heap.size w w' := by
  have HL := Lib.hid (arg_max hv)
  obtain ⟨a, c, rfl, hq⟩ := hv.shape
  have HBA := Lib.hid ((Below.refl w.heap.size w).alloc (Nat.le_refl _) (.cells #[.slice a l.length c] 24))
  clear hv hq
  by_cases h0 : 3000 < l.length
  · have HF := Lib.hid (show false = decide (l.length ≤ 3000) from (decide_eq_false (by omega)).symm)
    clear h h0
    go_enter Try.func3, Try.ntmps3
    go_wp2_with fail
    refine (few_any _ _ _ HL.out _ HF.out _).mono ?_
    rintro e w1 ⟨rfl, hb⟩
    have HB1 := Lib.hid (HBA.out.trans (hb.mono (by simp)))
    clear hb
    go_wp2_with fail
    refine (heads_any _).mono ?_
    rintro e w2 ⟨rfl, hb⟩
    have HB2 := Lib.hid (HB1.out.trans (hb.mono HB1.out.size))
    clear hb
    go_wp2
    go_ret
    exact ⟨rfl, HB2.out⟩
  · have HF := Lib.hid (show true = decide (l.length ≤ 3000) from (decide_eq_true (by omega)).symm)
    have h1 : n < 0 ∨ (0 ≤ n ∧ 100 < n) ∨ ((0 ≤ n ∧ n ≤ 100) ∧ k < 0) ∨ ((0 ≤ n ∧ n ≤ 100) ∧ 0 ≤ k ∧ 100 < k) := by omega
    clear h h0
    rcases h1 with h1 | ⟨h1, h2⟩ | ⟨⟨h1, h2⟩, h3⟩ | ⟨⟨h1, h2⟩, h3, h4⟩
    all_goals (
      go_enter Try.func3, Try.ntmps3
      go_wp2_with fail
      refine (few_any _ _ _ HL.out _ HF.out _).mono ?_
      rintro e w1 ⟨rfl, hb⟩
      have HB1 := Lib.hid (HBA.out.trans (hb.mono (by simp)))
      clear hb
      go_wp2_with fail
      refine (heads_any _).mono ?_
      rintro e w2 ⟨rfl, hb⟩
      have HB2 := Lib.hid (HB1.out.trans (hb.mono HB1.out.size))
      clear hb
      go_wp2
      go_ret
      exact ⟨rfl, HB2.out⟩)

set_option maxHeartbeats 1000000 in
theorem memParts_none (w : World) (v : Value) (l : List UInt8) (hv : IsArg w v l) (hl : l.length ≤ 3000) (x : Int) (n k : Nat) (hn : n ≤ 100) (hk : k ≤ 100) (h : faultOf l.length x n ≠ 0) :
    Calls Try.prog 3 #[.agg #[v], .int .i64 x, .int .i64 n, .int .i64 k] w fun e w' => e = .returned (.bool true) ∧ Below w.heap.size w w' := by
  have HL := Lib.hid (arg_max hv)
  have HV := Lib.hid hv
  obtain ⟨a, c, rfl, hq⟩ := hv.shape
  have HBA := Lib.hid ((Below.refl w.heap.size w).alloc (Nat.le_refl _) (.cells #[.slice a l.length c] 24))
  have HF := Lib.hid (show true = decide (l.length ≤ 3000) from (decide_eq_true (by omega)).symm)
  have HG := Lib.hid (getOf_none h)
  obtain ⟨f, hf⟩ : ∃ f, f = faultOf l.length x n := ⟨_, rfl⟩
  have HFF := Lib.hid hf.symm
  rw [← hf] at h
  clear hv hq hf hl
  go_enter Try.func3, Try.ntmps3
  go_wp2_with fail
  refine (few_any _ _ _ HL.out _ HF.out _).mono ?_
  rintro e w1 ⟨rfl, hb⟩
  have hcl := box_cell hb
  have HB1 := Lib.hid (HBA.out.trans (hb.mono (by simp)))
  clear hb
  go_wp2_with fail
  refine (get_this _ l x n f [] 0 HFF.out HG.out rfl HL.out _ (HV.out.below HB1.out)).mono ?_
  rintro e w2 ⟨ga, gc, rfl, hq, hb⟩
  have HB2 := Lib.hid (HB1.out.trans (hb.mono HB1.out.size))
  clear hb hq hcl
  go_wp2_with fail
  refine (heads_any _).mono ?_
  rintro e w3 ⟨rfl, hb⟩
  have HB3 := Lib.hid (HB2.out.trans (hb.mono HB2.out.size))
  clear hb
  go_wp2
  go_ret
  exact ⟨rfl, HB3.out⟩

set_option maxHeartbeats 4000000 in
set_option maxRecDepth 100000 in
theorem memParts_in (w : World) (v : Value) (l : List UInt8) (hv : IsArg w v l) (hl : l.length ≤ 3000) (x n k : Nat) (hn : n ≤ 100) (hk : k ≤ 100) (h : x + n ≤ l.length) :
    Calls Try.prog 3 #[.agg #[v], .int .i64 x, .int .i64 n, .int .i64 k] w fun e w' => e = .returned (.bool true) ∧ Below w.heap.size w w' := by
  have HL := Lib.hid (arg_max hv)
  have HV := Lib.hid hv
  obtain ⟨a, c, rfl, hq⟩ := hv.shape
  have HBA := Lib.hid ((Below.refl w.heap.size w).alloc (Nat.le_refl _) (.cells #[.slice a l.length c] 24))
  have HF := Lib.hid (show true = decide (l.length ≤ 3000) from (decide_eq_true (by omega)).symm)
  have h0 : faultOf l.length x n = 0 := fault_of (by omega) (by omega) (by omega) (by omega) (by omega)
  obtain ⟨A, hA⟩ : ∃ A, A = getOf l x n := ⟨_, rfl⟩
  have hAn : A.length = n := by have := getOf_length h0; rw [hA]; omega
  obtain ⟨F, hF⟩ : ∃ F, F = faultOf l.length x ((n + k : Nat) : Int) := ⟨_, rfl⟩
  have hF2 : faultOf l.length ((x + n : Nat) : Int) k = F := by
    rw [hF]
    by_cases h9 : x + n + k ≤ l.length
    · rw [fault_of (by omega) (by omega) (by omega) (by omega) (by omega), fault_of (by omega) (by omega) (by omega) (by omega) (by omega)]
    · rw [fault_out (by omega) (by omega), fault_out (by omega) (by omega)]
  obtain ⟨Bb, hBb⟩ : ∃ B, B = getOf l ((x + n : Nat) : Int) k := ⟨_, rfl⟩
  obtain ⟨Cc, hCc⟩ : ∃ C, C = getOf l x ((n + k : Nat) : Int) := ⟨_, rfl⟩
  obtain ⟨bn, hbn⟩ : ∃ n, n = Bb.length := ⟨_, rfl⟩
  obtain ⟨cn, hcn⟩ : ∃ n, n = Cc.length := ⟨_, rfl⟩
  obtain ⟨V, hV⟩ : ∃ V, V = (numOf l x n : Int) := ⟨_, rfl⟩
  obtain ⟨H, hH⟩ : ∃ H, H = numFaultOf l.length x n := ⟨_, rfl⟩
  have hjoin : F = 0 → Cc = A ++ Bb := fun h9 => by
    rw [hF] at h9
    have := fault_zero h9
    rw [hCc, hA, hBb]
    exact getOf_join l x n k (by omega) (by omega)
  have hnum : 1 ≤ n → n ≤ 8 → H = 0 ∧ V = (leN (A.take 8) : Int) := fun h1 h2 => by
    have h3 : sizeFaultOf l.length n = 0 := by unfold sizeFaultOf; rw [if_pos (by omega), if_pos (by omega)]
    rw [hH, hV]
    unfold numFaultOf numOf
    rw [if_pos h3, if_pos h3, h0, ← hA]
    exact ⟨rfl, rfl⟩
  have hlenb : Bb.length ≤ 100 := by rw [hBb]; exact getOf_short _ _ _ _ (by omega)
  have HBL := Lib.hid hlenb
  have HJ := Lib.hid hjoin
  have HNUM := Lib.hid hnum
  have H0 := Lib.hid h0
  have HA := Lib.hid hA.symm
  have HAN := Lib.hid hAn
  have HFF := Lib.hid hF.symm
  have HF2 := Lib.hid hF2
  have HBB := Lib.hid hBb.symm
  have HCC := Lib.hid hCc.symm
  have HBN := Lib.hid hbn.symm
  have HCN := Lib.hid hcn.symm
  have HVV := Lib.hid hV.symm
  have HHH := Lib.hid hH.symm
  have hxn : (x : Int) + (n : Int) = ((x + n : Nat) : Int) := by omega
  have hnk : (n : Int) + (k : Int) = ((n + k : Nat) : Int) := by omega
  obtain ⟨xn, hxn'⟩ : ∃ m, m = x + n := ⟨_, rfl⟩
  obtain ⟨nk, hnk'⟩ : ∃ m, m = n + k := ⟨_, rfl⟩
  rw [← hxn'] at hxn HF2 HBB
  rw [← hnk'] at hnk HFF HCC
  have hx3 : xn ≤ 3000 := by omega
  have hn3 : nk ≤ 200 := by omega
  clear hv hq hlenb hjoin hnum h0 hA hAn hF hF2 hBb hCc hbn hcn hV hH hxn' hnk' h hl
  go_enter Try.func3, Try.ntmps3
  go_wp2_with fail
  refine (few_any _ _ _ HL.out _ HF.out _).mono ?_
  rintro e w1 ⟨rfl, hb⟩
  have hcl := box_cell hb
  have HB1 := Lib.hid (HBA.out.trans (hb.mono (by simp)))
  clear hb
  go_wp2_with fail
  refine (get_this _ l x n 0 A n H0.out HA.out HAN.out HL.out _ (HV.out.below HB1.out)).mono ?_
  rintro e w2 ⟨ga, gc, rfl, hg, hb⟩
  have HB2 := Lib.hid (HB1.out.trans (hb.mono HB1.out.size))
  have HG2 := Lib.hid hg
  have hcl2 := kept hcl hb
  clear hb hg hcl
  go_wp2_with fail
  refine (get_this _ l xn k F Bb bn HF2.out HBB.out HBN.out HL.out _ (HV.out.below HB2.out)).mono ?_
  rintro e w3 ⟨ba, bc, rfl, hg, hb⟩
  have HB3 := Lib.hid (HB2.out.trans (hb.mono HB2.out.size))
  have HG3 := Lib.hid hg
  have HA3 := Lib.hid (HG2.out.below hb)
  have hcl3 := kept hcl2 hb
  clear hb hg hcl2
  go_wp2_with fail
  refine (get_this _ l x nk F Cc cn HFF.out HCC.out HCN.out HL.out _ (HV.out.below HB3.out)).mono ?_
  rintro e w4 ⟨ca, cc, rfl, hg, hb⟩
  have HB4 := Lib.hid (HB3.out.trans (hb.mono HB3.out.size))
  have HG4 := Lib.hid hg
  have HA4 := Lib.hid (HA3.out.below hb)
  have HBb4 := Lib.hid (HG3.out.below hb)
  have hcl4 := kept hcl3 hb
  clear hb hg hcl3
  go_wp2_with fail
  refine (num_this _ l x n V H HVV.out HHH.out HL.out _ (HV.out.below HB4.out)).mono ?_
  rintro e w5 ⟨rfl, hb⟩
  have HB5 := Lib.hid (HB4.out.trans (hb.mono HB4.out.size))
  have HA5 := Lib.hid (HA4.out.below hb)
  have HBb5 := Lib.hid (HBb4.out.below hb)
  have HC5 := Lib.hid (HG4.out.below hb)
  clear hb hcl4
  go_upto_region 9 with fail
  go_cut [17] (fun s wx => s = .bool true ∧ Below w5.heap.size w5 wx)
  case first =>
    by_cases hF0 : F = 0
    · have HCA := Lib.hid (HJ.out hF0)
      subst hF0
      obtain ⟨i0, hi, hz0, hz1, hz2⟩ := info_parts info8
      have hb1 := (Below.refl w5.heap.size w5).alloc (Nat.le_refl _) (.cells #[] 5)
      have HBa := Lib.hid hb1
      have HO := Lib.hid (ownsRow_empty (heap_alloc_new w5 (.cells #[] 5)) (cap := 0) (by decide) rfl _ (Nat.le_refl _))
      have HA6 := Lib.hid (HA5.out.below hb1).2
      clear hb1
      go_wp2_with (at_builtin; refine wpList_append_isArg_want _ (by kernel_rfl) _ _ 22 rfl w5.heap.size 5 i0 (.int .u8 0) Try.underlying22 hi hz0 hz1 hz2 rfl _ _ _ rfl HO.out _ A rfl HA6.out (by rw [HAN.out]; omega) (by simp) ?_)
      intro v' w6 hown hgrow
      have HB6 := Lib.hid (HBa.out.grown hgrow (by simp) (fun k hk => (HO.out.lt k hk).1))
      have HB7 := Lib.hid (HBb5.out.below HB6.out).2
      have HO1 := Lib.hid (show w6.ownsRow w5.heap.size 5 1 v' A.length (byteCells A) by simpa using hown)
      clear hown hgrow
      go_wp2_with (at_builtin; refine wpList_append_isArg_want _ (by kernel_rfl) _ _ 22 rfl w5.heap.size 5 i0 (.int .u8 0) Try.underlying22 hi hz0 hz1 hz2 rfl _ _ _ rfl HO1.out _ Bb rfl HB7.out (by have := HBL.out; have := HAN.out; omega) HB6.out.size ?_)
      intro v2 w7 hown hgrow
      have HB8 := Lib.hid (HB6.out.grown hgrow HB6.out.size (fun k hk => (HO1.out.lt k hk).1))
      have hb2 := isBytes_of_owns (l := A ++ Bb) (by rw [List.length_append, byteCells_append]; exact hown)
      rw [← HCA.out] at hb2
      have HX := Lib.hid hb2
      clear hown hgrow hb2
      go_wp2_with fail
      refine (bytes_same _ _ Cc _ (HC5.out.below HB8.out).1 HX.out).mono ?_
      rintro e w8 ⟨rfl, rfl⟩
      go_wp2_with fail
      go_meet
      exact ⟨rfl, HB8.out⟩
    · go_wp2_with fail
      go_meet
      exact ⟨rfl, Below.refl _ _⟩
  case rest =>
  obtain ⟨rfl, hbx⟩ := hcut
  have HBX := Lib.hid (HB5.out.trans (hbx.mono HB5.out.size))
  have HAX := Lib.hid (HA5.out.below hbx)
  clear hbx
  have hways : n < 1 ∨ (1 ≤ n ∧ 8 < n) ∨ (1 ≤ n ∧ n ≤ 8) := by omega
  rcases hways with h1 | ⟨h1, h2⟩ | ⟨h1, h2⟩
  · go_wp2_with fail
    refine (heads_any _).mono ?_
    rintro e w8 ⟨rfl, hb⟩
    have HBe := Lib.hid (HBX.out.trans (hb.mono HBX.out.size))
    clear hb
    go_wp2
    go_ret
    exact ⟨rfl, HBe.out⟩
  · go_wp2_with fail
    refine (heads_any _).mono ?_
    rintro e w8 ⟨rfl, hb⟩
    have HBe := Lib.hid (HBX.out.trans (hb.mono HBX.out.size))
    clear hb
    go_wp2
    go_ret
    exact ⟨rfl, HBe.out⟩
  · obtain ⟨h3, h4⟩ := HNUM.out h1 h2
    subst h3
    have H4 := Lib.hid h4
    clear h4
    go_wp2_with fail
    refine (refFromLe_any _ A _ HAX.out.1).mono ?_
    rintro e w8 ⟨rfl, rfl⟩
    rw [← H4.out]
    go_wp2_with fail
    refine (heads_any _).mono ?_
    rintro e w8 ⟨rfl, hb⟩
    have HBe := Lib.hid (HBX.out.trans (hb.mono HBX.out.size))
    clear hb
    go_wp2
    go_ret
    exact ⟨rfl, HBe.out⟩

theorem memParts_law (w : World) (v : Value) (l : List UInt8) (hv : IsArg w v l) (x : Int) (hx : -9223372036854775808 ≤ x ∧ x ≤ 9223372036854775807) (n : Int) (hn : -9223372036854775808 ≤ n ∧ n ≤ 9223372036854775807) (k : Int) (hk : -9223372036854775808 ≤ k ∧ k ≤ 9223372036854775807) :
    Calls Try.prog 3 #[.agg #[v], .int .i64 x, .int .i64 n, .int .i64 k] w fun e w' => e = .returned (.bool true) ∧ Below w.heap.size w w' := by
  by_cases h : 3000 < l.length ∨ n < 0 ∨ 100 < n ∨ k < 0 ∨ 100 < k
  · exact memParts_out w v l hv x n k h
  · obtain ⟨n, rfl⟩ := Int.eq_ofNat_of_zero_le (show 0 ≤ n by omega)
    obtain ⟨k, rfl⟩ := Int.eq_ofNat_of_zero_le (show 0 ≤ k by omega)
    by_cases h0 : faultOf l.length x n = 0
    · have h1 := fault_zero h0
      obtain ⟨x, rfl⟩ := Int.eq_ofNat_of_zero_le (show 0 ≤ x by omega)
      exact memParts_in w v l hv (by omega) x n k (by omega) (by omega) (by omega)
    · exact memParts_none w v l hv (by omega) x n k (by omega) (by omega) h0
end Go.Proofs.Ytiapamfbjjclbaa
