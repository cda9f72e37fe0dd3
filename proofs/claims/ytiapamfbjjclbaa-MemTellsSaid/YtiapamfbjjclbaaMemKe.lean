/- The law MemKeeps returns true for every input. -/
import Derived.Test.YtiapamfbjjclbaaMemPa
namespace Go.Proofs.Ytiapamfbjjclbaa
open Go.RowKit Go.Lib

theorem getOf_put (l m : List UInt8) (x : Int) (h : faultOf l.length x m.length = 0) : getOf (putOf l x m) x m.length = m := by
  have h1 : faultOf (putOf l x m).length x m.length = 0 := by rw [putOf_length]; exact h
  rw [getOf_some h1, putOf_some h]
  obtain ⟨k0, k1, k2, k3, k4⟩ := fault_zero h
  obtain ⟨x, rfl⟩ := Int.eq_ofNat_of_zero_le k1
  simp only [Int.toNat_natCast]
  have h2 : (l.take x).length = x := by simp; omega
  rw [List.append_assoc, List.drop_left' h2, List.take_left' rfl]
theorem take_one_at (l : List UInt8) (z : Nat) : (l.drop z).take 1 = (l[z]?).toList := by rw [List.take_one, List.head?_drop]
theorem getOf_other (l m : List UInt8) (x z : Int) (h : faultOf l.length x m.length = 0) (hz : faultOf l.length z 1 = 0) (ho : z < x ∨ (m.length : Int) ≤ z - x) : getOf (putOf l x m) z 1 = getOf l z 1 := by
  have h1 : faultOf (putOf l x m).length z 1 = 0 := by rw [putOf_length]; exact hz
  rw [getOf_some h1, getOf_some hz, putOf_some h]
  obtain ⟨k0, k1, k2, k3, k4⟩ := fault_zero h
  obtain ⟨_, j1, j2, _, _⟩ := fault_zero hz
  obtain ⟨x, rfl⟩ := Int.eq_ofNat_of_zero_le k1
  obtain ⟨z, rfl⟩ := Int.eq_ofNat_of_zero_le j1
  simp only [Int.toNat_natCast]
  rw [show (1 : Int).toNat = 1 from rfl, take_one_at, take_one_at]
  congr 1
  rcases ho with ho | ho
  · rw [List.append_assoc, List.getElem?_append_left (by simp; omega), List.getElem?_take, if_pos (by omega)]
  · rw [List.getElem?_append_right (by simp; omega), List.getElem?_drop]
    congr 1
    simp
    omega

set_option maxHeartbeats 1000000 in
theorem memKeeps_out (w : World) (v : Value) (l : List UInt8) (hv : IsArg w v l) (x : Int) (u : Value) (m : List UInt8) (hu : IsArg w u m) (z : Int) (h : 3000 < l.length ∨ 500 < m.length) :
    Calls Try.prog 5 #[.agg #[v], .int .i64 x, u, .int .i64 z] w fun e w' => e = .returned (.bool true) ∧ Below w.heap.size w w' := by
  have HL := Lib.hid (arg_max hv)
  have hmm := arg_max hu
  unfold maxLen at hmm
  obtain ⟨a, c, rfl, hq⟩ := hv.shape
  obtain ⟨ua, uc, rfl, hq2⟩ := hu.shape
  have HBA := Lib.hid ((Below.refl w.heap.size w).alloc (Nat.le_refl _) (.cells #[.slice a l.length c] 24))
  clear hv hq hu hq2
  by_cases h0 : 3000 < l.length
  · have HF := Lib.hid (show false = decide (l.length ≤ 3000) from (decide_eq_false (by omega)).symm)
    clear h h0
    go_enter Try.func5, Try.ntmps5
    go_wp2_with fail
    refine (few_any _ _ _ HL.out _ HF.out _).mono ?_
    rintro e w1 ⟨rfl, hb⟩
    have HB1 := Lib.hid (HBA.out.trans (hb.mono (by simp)))
    clear hb
    go_wp2_with fail
    refine (heads_any _).mono ?_
    rintro e w2 ⟨rfl, hb⟩
    have HB2 := Lib.hid (HB1.out.trans (hb.mono HB1.out.size))
    clear hb
    go_wp2
    go_ret
    exact ⟨rfl, HB2.out⟩
  · have HF := Lib.hid (show true = decide (l.length ≤ 3000) from (decide_eq_true (by omega)).symm)
    have h1 : 500 < m.length := by omega
    clear h h0
    go_enter Try.func5, Try.ntmps5
    go_wp2_with fail
    refine (few_any _ _ _ HL.out _ HF.out _).mono ?_
    rintro e w1 ⟨rfl, hb⟩
    have HB1 := Lib.hid (HBA.out.trans (hb.mono (by simp)))
    clear hb
    go_wp2_with fail
    refine (heads_any _).mono ?_
    rintro e w2 ⟨rfl, hb⟩
    have HB2 := Lib.hid (HB1.out.trans (hb.mono HB1.out.size))
    clear hb
    go_wp2
    go_ret
    exact ⟨rfl, HB2.out⟩

set_option maxHeartbeats 1000000 in
theorem memKeeps_none (w : World) (v : Value) (l : List UInt8) (hv : IsArg w v l) (hl : l.length ≤ 3000) (x : Int) (u : Value) (m : List UInt8) (hu : IsArg w u m) (hm : m.length ≤ 500) (z : Int) (h : faultOf l.length x m.length = 40) :
    Calls Try.prog 5 #[.agg #[v], .int .i64 x, u, .int .i64 z] w fun e w' => e = .returned (.bool true) ∧ Below w.heap.size w w' := by
  have HL := Lib.hid (arg_max hv)
  have HV := Lib.hid hv
  have HU := Lib.hid hu
  obtain ⟨a, c, rfl, hq⟩ := hv.shape
  obtain ⟨ua, uc, rfl, hq2⟩ := hu.shape
  have HBA := Lib.hid ((Below.refl w.heap.size w).alloc (Nat.le_refl _) (.cells #[.slice a l.length c] 24))
  have HF := Lib.hid (show true = decide (l.length ≤ 3000) from (decide_eq_true (by omega)).symm)
  have HG := Lib.hid (putOf_none (l := l) (b := m) (a := x) (by rw [h]; decide))
  have HH := Lib.hid h
  have HLL := Lib.hid (show l.length ≤ 140737488355328 ∧ m.length ≤ 140737488355328 by omega)
  clear hv hq hu hq2 h
  go_enter Try.func5, Try.ntmps5
  go_wp2_with fail
  refine (few_any _ _ _ HL.out _ HF.out _).mono ?_
  rintro e w1 ⟨rfl, hb⟩
  have hcl := box_cell hb
  have HB1 := Lib.hid (HBA.out.trans (hb.mono (by simp)))
  clear hb
  go_wp2_with fail
  refine (put_this _ l _ m x 40 l l.length HH.out HG.out rfl HLL.out.1 HLL.out.2 _ (HV.out.below HB1.out) (HU.out.below HB1.out)).mono ?_
  rintro e w2 ⟨pa, pc, rfl, hp, hb⟩
  have HB2 := Lib.hid (HB1.out.trans (hb.mono HB1.out.size))
  have HP2 := Lib.hid hp
  have bP := Lib.hid ((Below.refl w2.heap.size w2).alloc (Nat.le_refl _) (.cells #[.slice pa l.length pc] 24))
  have hcl2 := kept (kept hcl hb) bP.out
  clear hb hp hcl
  go_wp2_with fail
  refine (alike_any _ _ l _ (HP2.out.below bP.out) (HV.out.below (HB2.out.trans (bP.out.mono HB2.out.size)))).mono ?_
  rintro e w3 ⟨rfl, hb⟩
  have HB3 := Lib.hid (HB2.out.trans ((bP.out.trans (hb.mono (by simp))).mono HB2.out.size))
  clear hb hcl2
  go_wp2_with fail
  refine (heads_any _).mono ?_
  rintro e w4 ⟨rfl, hb⟩
  have HB4 := Lib.hid (HB3.out.trans (hb.mono HB3.out.size))
  clear hb
  go_wp2
  go_ret
  exact ⟨rfl, HB4.out⟩

set_option maxHeartbeats 4000000 in
set_option maxRecDepth 100000 in
theorem memKeeps_in (w : World) (v : Value) (l : List UInt8) (hv : IsArg w v l) (hl : l.length ≤ 3000) (x : Int) (u : Value) (m : List UInt8) (hu : IsArg w u m) (hm : m.length ≤ 500) (z : Int) (h : faultOf l.length x m.length = 0) :
    Calls Try.prog 5 #[.agg #[v], .int .i64 x, u, .int .i64 z] w fun e w' => e = .returned (.bool true) ∧ Below w.heap.size w w' := by
  have HL := Lib.hid (arg_max hv)
  have HV := Lib.hid hv
  have HU := Lib.hid hu
  obtain ⟨a, c, rfl, hq⟩ := hv.shape
  obtain ⟨ua, uc, rfl, hq2⟩ := hu.shape
  have HBA := Lib.hid ((Below.refl w.heap.size w).alloc (Nat.le_refl _) (.cells #[.slice a l.length c] 24))
  have HF := Lib.hid (show true = decide (l.length ≤ 3000) from (decide_eq_true (by omega)).symm)
  obtain ⟨G, hG⟩ : ∃ G, G = putOf l x m := ⟨_, rfl⟩
  obtain ⟨F, hF⟩ : ∃ F, F = faultOf l.length z 1 := ⟨_, rfl⟩
  obtain ⟨X, hX⟩ : ∃ X, X = getOf l z 1 := ⟨_, rfl⟩
  obtain ⟨Y, hY⟩ : ∃ Y, Y = getOf G z 1 := ⟨_, rfl⟩
  have hgl : G.length = l.length := by rw [hG]; exact putOf_length _ _ _
  obtain ⟨xn, hxn⟩ : ∃ n, n = X.length := ⟨_, rfl⟩
  obtain ⟨yn, hyn⟩ : ∃ n, n = Y.length := ⟨_, rfl⟩
  have hz := fault_zero h
  have hxy : F = 0 → (z < x ∨ (m.length : Int) ≤ z - x) → X = Y := fun h1 h2 => by
    rw [hX, hY, hG, getOf_other l m x z h (by rw [← hF]; exact h1) h2]
  have hzin : F = 0 → 0 ≤ z ∧ z ≤ 3000 := fun h1 => by
    rw [hF] at h1
    have := fault_zero h1
    omega
  have HGG := Lib.hid hG.symm
  have HFF := Lib.hid hF.symm
  have HX := Lib.hid hX.symm
  have HY := Lib.hid hY.symm
  have HXN := Lib.hid hxn.symm
  have HYN := Lib.hid hyn.symm
  have HGL := Lib.hid hgl
  have HFG := Lib.hid (show faultOf G.length z 1 = F by rw [hgl, ← hF])
  have HP := Lib.hid h
  have HPG := Lib.hid (show faultOf G.length x m.length = 0 by rw [hgl]; exact h)
  have HGP := Lib.hid (show getOf G x m.length = m by rw [hG]; exact getOf_put l m x h)
  have HXY := Lib.hid hxy
  have HZ := Lib.hid hzin
  have hx0 : 0 ≤ x := hz.2.1
  have hx1 : x ≤ 3000 := by omega
  have HLG := Lib.hid (show G.length ≤ maxLen by rw [hgl]; exact HL.out)
  have HLL := Lib.hid (show l.length ≤ 140737488355328 ∧ m.length ≤ 140737488355328 by omega)
  clear hv hq hu hq2 h hG hF hX hY hgl hxn hyn hz hxy hzin
  go_enter Try.func5, Try.ntmps5
  go_wp2_with fail
  refine (few_any _ _ _ HL.out _ HF.out _).mono ?_
  rintro e w1 ⟨rfl, hb⟩
  have hcl := box_cell hb
  have HB1 := Lib.hid (HBA.out.trans (hb.mono (by simp)))
  clear hb
  go_wp2_with fail
  refine (put_this _ l _ m x 0 G l.length HP.out HGG.out HGL.out HLL.out.1 HLL.out.2 _ (HV.out.below HB1.out) (HU.out.below HB1.out)).mono ?_
  rintro e w2 ⟨pa, pc, rfl, hp, hb⟩
  have HB2 := Lib.hid (HB1.out.trans (hb.mono HB1.out.size))
  have HP2 := Lib.hid hp
  have bP := Lib.hid ((Below.refl w2.heap.size w2).alloc (Nat.le_refl _) (.cells #[.slice pa l.length pc] 24))
  have HB2a := Lib.hid (HB2.out.trans (bP.out.mono HB2.out.size))
  have C2 := Lib.hid (kept (kept hcl hb) bP.out)
  have D2 := Lib.hid (one_new w2 (.slice pa l.length pc) 24 (0, 0))
  clear hb hp hcl
  go_wp2_with fail
  refine (get_this _ G x m.length 0 m m.length HPG.out HGP.out rfl HLG.out _ (HP2.out.below bP.out)).mono ?_
  rintro e w3 ⟨ga, gc, rfl, hg, hb⟩
  have HB3 := Lib.hid (HB2a.out.trans (hb.mono HB2a.out.size))
  have HG3 := Lib.hid hg
  have HP3 := Lib.hid (HP2.out.below (bP.out.trans (hb.mono (by simp))))
  have hcl := kept C2.out hb
  have D3 := Lib.hid (kept D2.out hb)
  clear hb hg
  go_wp2_with fail
  refine (get_this _ l z 1 F X xn HFF.out HX.out HXN.out HL.out _ (HV.out.below HB3.out)).mono ?_
  rintro e w4 ⟨xa, xc, rfl, hg, hb⟩
  have HB4 := Lib.hid (HB3.out.trans (hb.mono HB3.out.size))
  have HX4 := Lib.hid hg
  have HG4 := Lib.hid (HG3.out.below hb)
  have HP4 := Lib.hid (HP3.out.below hb)
  have C4 := Lib.hid (kept hcl hb)
  have hdl := kept D3.out hb
  clear hb hg hcl
  go_wp2_with fail
  refine (get_this _ G z 1 F Y yn HFG.out HY.out HYN.out HLG.out _ HP4.out).mono ?_
  rintro e w5 ⟨ya, yc, rfl, hg, hb⟩
  have HB5 := Lib.hid (HB4.out.trans (hb.mono HB4.out.size))
  have HY5 := Lib.hid hg
  have HX5 := Lib.hid (HX4.out.below hb)
  have HG5 := Lib.hid (HG4.out.below hb)
  have C5 := Lib.hid (kept C4.out hb)
  have D5 := Lib.hid (kept hdl hb)
  clear hb hg hdl
  go_upto_region 9 with fail
  go_cut [17] (fun s wx => ∃ T : Bool, s = .bool T ∧ (T = true → X = Y) ∧ wx = w5)
  case first =>
    by_cases hF0 : F = 0
    · have hzz := HZ.out hF0
      have HE := Lib.hid (HXY.out hF0)
      subst hF0
      by_cases h1 : z < x
      · go_wp2_with fail
        go_meet
        exact ⟨true, rfl, fun _ => HE.out (.inl h1), rfl⟩
      · by_cases h2 : (m.length : Int) ≤ z - x
        · go_wp2_with fail
          go_meet
          exact ⟨true, rfl, fun _ => HE.out (.inr h2), rfl⟩
        · go_wp2_with fail
          go_meet
          exact ⟨false, rfl, (fun h => by cases h), rfl⟩
    · go_wp2_with fail
      go_meet
      exact ⟨false, rfl, (fun h => by cases h), rfl⟩
  case rest =>
  obtain ⟨T, rfl, hT, rfl⟩ := hcut
  have HT := Lib.hid hT
  clear hT
  go_wp2_with fail
  refine (bytes_same _ _ m _ HG5.out.1 (HU.out.below HB5.out).1).mono ?_
  rintro e w8 ⟨rfl, rfl⟩
  have hcc := C5.out
  have hdd := D5.out
  cases T with
  | true =>
    have HE := Lib.hid (HT.out rfl)
    go_wp2_with fail
    refine (bytes_same _ _ X _ HX5.out.1 (by rw [HE.out]; exact HY5.out.1)).mono ?_
    rintro e w8 ⟨rfl, rfl⟩
    go_wp2_with fail
    refine (heads_any _).mono ?_
    rintro e w9 ⟨rfl, hb⟩
    have HBe := Lib.hid (HB5.out.trans (hb.mono HB5.out.size))
    clear hb
    go_wp2
    go_ret
    exact ⟨rfl, HBe.out⟩
  | false =>
    go_wp2_with fail
    refine (heads_any _).mono ?_
    rintro e w9 ⟨rfl, hb⟩
    have HBe := Lib.hid (HB5.out.trans (hb.mono HB5.out.size))
    clear hb
    go_wp2
    go_ret
    exact ⟨rfl, HBe.out⟩

theorem memKeeps_law (w : World) (v : Value) (l : List UInt8) (hv : IsArg w v l) (x : Int) (_ : -9223372036854775808 ≤ x ∧ x ≤ 9223372036854775807) (u : Value) (m : List UInt8) (hu : IsArg w u m) (z : Int) (_ : -9223372036854775808 ≤ z ∧ z ≤ 9223372036854775807) :
    Calls Try.prog 5 #[.agg #[v], .int .i64 x, u, .int .i64 z] w fun e w' => e = .returned (.bool true) ∧ Below w.heap.size w w' := by
  by_cases h : 3000 < l.length ∨ 500 < m.length
  · exact memKeeps_out w v l hv x u m hu z h
  · rcases fault_cases l.length x m.length with ⟨_, h1⟩ | ⟨h1, _⟩ | ⟨h1, _⟩
    · omega
    · exact memKeeps_none w v l hv (by omega) x u m hu (by omega) z h1
    · exact memKeeps_in w v l hv (by omega) x u m hu (by omega) z h1
end Go.Proofs.Ytiapamfbjjclbaa
