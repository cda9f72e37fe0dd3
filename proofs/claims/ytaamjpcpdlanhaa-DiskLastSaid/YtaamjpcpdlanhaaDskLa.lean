/- The law DiskLast returns true for every input. -/
import Derived.Test.YtaamjpcpdlanhaaDskSa
namespace Go.Proofs.Ytaamjpcpdlanhaa
open Go.RowKit Go.Lib

theorem chk_write {S : List (List UInt8)} {C : List (Int × List UInt8)} {z : Int} {l : List UInt8} (h : wFault S C z l.length = 0) : chkB S (C ++ [(z, l)]) = true := by
  obtain ⟨hk, z0, z1, h256, hm⟩ := wFault_zero h
  obtain ⟨h1, h2, h3, h4⟩ := chk_true.1 hk
  refine chk_true.2 ⟨h1, by simp; omega, h3, fun x hx => ?_⟩
  rcases List.mem_append.1 hx with hx | hx
  · exact h4 x hx
  · obtain rfl : x = (z, l) := by simpa using hx
    exact ⟨z0, z1, h256⟩
theorem last_said {S : List (List UInt8)} {C : List (Int × List UInt8)} {i : Nat} {l : List UInt8} (hi : i < S.length) : (settledOf S (C ++ [((i : Int), l)]) every).getD i [] = l := by
  have hl : (C ++ [((i : Int), l)]).length = C.length + 1 := by simp
  have hg : (C ++ [((i : Int), l)]).getD C.length (0, []) = ((i : Int), l) := by
    rw [List.getD_eq_getElem?_getD, List.getElem?_append_right (Nat.le_refl _), Nat.sub_self]
    rfl
  unfold settledOf
  rw [hl, after_hit S _ every C.length i rfl (by rw [hg]) hi, hg]
theorem read_last {S : List (List UInt8)} {C : List (Int × List UInt8)} {z : Int} {l : List UInt8} (h : wFault S C z l.length = 0) : dFault S (C ++ [(z, l)]) z = 0 ∧ readOf S (C ++ [(z, l)]) z = l ∧ dFault (settledOf S (C ++ [(z, l)]) every) [] z = 0 ∧ readOf (settledOf S (C ++ [(z, l)]) every) [] z = l := by
  obtain ⟨hk, z0, z1, h256, hm⟩ := wFault_zero h
  have hk2 := chk_write h
  have hf := fault_in hk2 z0 z1
  have hk3 := chk_settled every hk2
  have hf3 : dFault (settledOf S (C ++ [(z, l)]) every) [] z = 0 := fault_in hk3 z0 (by rw [settled_length]; exact z1)
  obtain ⟨i, rfl⟩ := Int.eq_ofNat_of_zero_le z0
  have hs : (settledOf S (C ++ [((i : Int), l)]) every).getD i [] = l := last_said (by omega)
  refine ⟨hf, ?_, hf3, ?_⟩
  · rw [readOf, if_pos hf, Int.toNat_natCast]
    exact hs
  · rw [readOf, if_pos hf3, Int.toNat_natCast]
    exact hs
/-- The disk at hand: what came in, or one of the call's own. -/
def AtHand (w W : World) (s c : Value) (S : List (List UInt8)) (C : List (Int × List UInt8)) : Prop := IsDisk w s c S C ∨ ∃ B, OwnDisk B W s c S C
theorem AtHand.disk {w W : World} {s c : Value} {S : List (List UInt8)} {C : List (Int × List UInt8)} (h : AtHand w W s c S C) (hb : Below w.heap.size w W) : IsDisk W s c S C := by
  rcases h with h | ⟨B, h⟩
  · exact h.below hb
  · exact h.disk
theorem AtHand.below {w W W' : World} {s c : Value} {S : List (List UInt8)} {C : List (Int × List UInt8)} (h : AtHand w W s c S C) (hb : Below W.heap.size W W') : AtHand w W' s c S C := by
  rcases h with h | ⟨B, h⟩
  · exact .inl h
  · exact .inr ⟨B, h.below hb⟩
theorem ints_shape {w : World} {v : Value} {l : List Int} (h : IsInts w v l) : ∃ a c, v = .slice a l.length c ∧ l.length ≤ maxLen := Held.shape h.1
theorem arg_len {w : World} {v : Value} {l : List UInt8} (h : IsArg w v l) : l.length ≤ maxLen := by
  rcases h.1 with ⟨_, _, _, rfl⟩ | ⟨b, off, cap, _, h2, h3, _⟩
  · exact Nat.zero_le _
  · exact Nat.le_trans h2 h3

set_option maxHeartbeats 4000000 in
set_option maxRecDepth 100000 in
theorem diskLast_out (w : World) (s c : Value) (S : List (List UInt8)) (C : List (Int × List UInt8)) (hd : IsDisk w s c S C) (av : Value) (la : List Int) (ha : IsInts w av la) (cv : Value) (lc : List UInt8) (hc : IsArg w cv lc) (h : fewB S C = false ∨ (fewB S C = true ∧ chkB S C = false) ∨ (fewB S C = true ∧ chkB S C = true ∧ 60 < la.length) ∨ (fewB S C = true ∧ chkB S C = true ∧ la.length ≤ 60 ∧ lc.length < la.length)) :
    Calls Try.prog 5 #[.agg #[s, c], av, cv] w fun e w' => e = .returned (.bool true) ∧ Below w.heap.size w w' := by
  have HD := Lib.hid hd
  have HA := Lib.hid ha
  have HC := Lib.hid hc
  have hcm := arg_len hc
  obtain ⟨a, ca, a1, c1, rfl, rfl, _, _⟩ := hd.shape
  obtain ⟨ka, kc, rfl, hkm⟩ := ints_shape ha
  obtain ⟨va, vn, vc, rfl, hvn⟩ := hc.shape3
  obtain ⟨n, hSn⟩ : ∃ n, n = S.length := ⟨_, rfl⟩
  obtain ⟨m, hCm⟩ : ∃ m, m = C.length := ⟨_, rfl⟩
  obtain ⟨kn, hkn⟩ : ∃ m, m = la.length := ⟨_, rfl⟩
  rw [← hSn, ← hCm] at HD
  rw [← hkn] at HA hkm h
  rw [← hvn] at hcm h
  rw [← hSn, ← hCm, ← hkn]
  unfold maxLen at hkm hcm
  have HSn := Lib.hid hSn.symm
  have HCm := Lib.hid hCm.symm
  have HKN := Lib.hid hkn.symm
  have HVN := Lib.hid hvn.symm
  have BW := Lib.hid (Below.refl w.heap.size w)
  clear hd ha hc hSn hCm hkn hvn
  rcases h with hf | ⟨hf, hk⟩ | ⟨hf, hk, hl⟩ | ⟨hf, hk, hl, hl2⟩
  · have HFB := Lib.hid hf
    clear hf
    have hbx : Below (w).heap.size (w) ((w).alloc (.cells #[.slice a n ca, .slice a1 m c1] 25)) := (Below.refl _ _).alloc (Nat.le_refl _) _
    replace BW := Lib.hid (BW.out.trans (hbx.mono BW.out.size))
    replace HD := Lib.hid (HD.out.below hbx)
    have Rd := Lib.hid (heap_alloc_new (w) (.cells #[.slice a n ca, .slice a1 m c1] 25))
    clear hbx
    go_enter Try.func5, Try.ntmps5
    obtain ⟨⟨lRda, lRdb⟩, lRdc, lRdd⟩ := box_cells Rd.out
    clear lRdc lRdd
    go_wp2_with fail
    refine (few_any _ _ S C _ HD.out _ HFB.out).mono ?_
    rintro e w1 ⟨rfl, hb⟩
    clear lRda lRdb
    replace BW := Lib.hid (BW.out.trans (hb.mono BW.out.size))
    replace HD := Lib.hid (HD.out.below hb)
    replace Rd := Lib.hid (row_keep Rd.out hb)
    clear hb
    go_wp2_with fail
    refine (heads_any _).mono ?_
    rintro e w2 ⟨rfl, hb⟩
    replace BW := Lib.hid (BW.out.trans (hb.mono BW.out.size))
    replace HD := Lib.hid (HD.out.below hb)
    replace Rd := Lib.hid (row_keep Rd.out hb)
    clear hb
    go_wp2
    go_ret
    exact ⟨rfl, BW.out⟩
  · have HFB := Lib.hid hf
    clear hf
    have HKB := Lib.hid hk
    clear hk
    have hbx : Below (w).heap.size (w) ((w).alloc (.cells #[.slice a n ca, .slice a1 m c1] 25)) := (Below.refl _ _).alloc (Nat.le_refl _) _
    replace BW := Lib.hid (BW.out.trans (hbx.mono BW.out.size))
    replace HD := Lib.hid (HD.out.below hbx)
    have Rd := Lib.hid (heap_alloc_new (w) (.cells #[.slice a n ca, .slice a1 m c1] 25))
    clear hbx
    go_enter Try.func5, Try.ntmps5
    obtain ⟨⟨lRda, lRdb⟩, lRdc, lRdd⟩ := box_cells Rd.out
    clear lRdc lRdd
    go_wp2_with fail
    refine (few_any _ _ S C _ HD.out _ HFB.out).mono ?_
    rintro e w1 ⟨rfl, hb⟩
    clear lRda lRdb
    replace BW := Lib.hid (BW.out.trans (hb.mono BW.out.size))
    replace HD := Lib.hid (HD.out.below hb)
    replace Rd := Lib.hid (row_keep Rd.out hb)
    clear hb
    obtain ⟨⟨lRda, lRdb⟩, lRdc, lRdd⟩ := box_cells Rd.out
    clear lRdc lRdd
    go_wp2_with fail
    refine (refCheck_any _ _ S C _ HD.out _ HKB.out).mono ?_
    rintro e w2 ⟨rfl, hb⟩
    clear lRda lRdb
    replace BW := Lib.hid (BW.out.trans (hb.mono BW.out.size))
    replace HD := Lib.hid (HD.out.below hb)
    replace Rd := Lib.hid (row_keep Rd.out hb)
    clear hb
    go_wp2_with fail
    refine (heads_any _).mono ?_
    rintro e w3 ⟨rfl, hb⟩
    replace BW := Lib.hid (BW.out.trans (hb.mono BW.out.size))
    replace HD := Lib.hid (HD.out.below hb)
    replace Rd := Lib.hid (row_keep Rd.out hb)
    clear hb
    go_wp2
    go_ret
    exact ⟨rfl, BW.out⟩
  · have HFB := Lib.hid hf
    clear hf
    have HKB := Lib.hid hk
    clear hk
    have hbx : Below (w).heap.size (w) ((w).alloc (.cells #[.slice a n ca, .slice a1 m c1] 25)) := (Below.refl _ _).alloc (Nat.le_refl _) _
    replace BW := Lib.hid (BW.out.trans (hbx.mono BW.out.size))
    replace HD := Lib.hid (HD.out.below hbx)
    have Rd := Lib.hid (heap_alloc_new (w) (.cells #[.slice a n ca, .slice a1 m c1] 25))
    clear hbx
    go_enter Try.func5, Try.ntmps5
    obtain ⟨⟨lRda, lRdb⟩, lRdc, lRdd⟩ := box_cells Rd.out
    clear lRdc lRdd
    go_wp2_with fail
    refine (few_any _ _ S C _ HD.out _ HFB.out).mono ?_
    rintro e w1 ⟨rfl, hb⟩
    clear lRda lRdb
    replace BW := Lib.hid (BW.out.trans (hb.mono BW.out.size))
    replace HD := Lib.hid (HD.out.below hb)
    replace Rd := Lib.hid (row_keep Rd.out hb)
    clear hb
    obtain ⟨⟨lRda, lRdb⟩, lRdc, lRdd⟩ := box_cells Rd.out
    clear lRdc lRdd
    go_wp2_with fail
    refine (refCheck_any _ _ S C _ HD.out _ HKB.out).mono ?_
    rintro e w2 ⟨rfl, hb⟩
    clear lRda lRdb
    replace BW := Lib.hid (BW.out.trans (hb.mono BW.out.size))
    replace HD := Lib.hid (HD.out.below hb)
    replace Rd := Lib.hid (row_keep Rd.out hb)
    clear hb
    go_wp2_with fail
    refine (heads_any _).mono ?_
    rintro e w3 ⟨rfl, hb⟩
    replace BW := Lib.hid (BW.out.trans (hb.mono BW.out.size))
    replace HD := Lib.hid (HD.out.below hb)
    replace Rd := Lib.hid (row_keep Rd.out hb)
    clear hb
    go_wp2
    go_ret
    exact ⟨rfl, BW.out⟩
  · have HFB := Lib.hid hf
    clear hf
    have HKB := Lib.hid hk
    clear hk
    have hbx : Below (w).heap.size (w) ((w).alloc (.cells #[.slice a n ca, .slice a1 m c1] 25)) := (Below.refl _ _).alloc (Nat.le_refl _) _
    replace BW := Lib.hid (BW.out.trans (hbx.mono BW.out.size))
    replace HD := Lib.hid (HD.out.below hbx)
    have Rd := Lib.hid (heap_alloc_new (w) (.cells #[.slice a n ca, .slice a1 m c1] 25))
    clear hbx
    go_enter Try.func5, Try.ntmps5
    obtain ⟨⟨lRda, lRdb⟩, lRdc, lRdd⟩ := box_cells Rd.out
    clear lRdc lRdd
    go_wp2_with fail
    refine (few_any _ _ S C _ HD.out _ HFB.out).mono ?_
    rintro e w1 ⟨rfl, hb⟩
    clear lRda lRdb
    replace BW := Lib.hid (BW.out.trans (hb.mono BW.out.size))
    replace HD := Lib.hid (HD.out.below hb)
    replace Rd := Lib.hid (row_keep Rd.out hb)
    clear hb
    obtain ⟨⟨lRda, lRdb⟩, lRdc, lRdd⟩ := box_cells Rd.out
    clear lRdc lRdd
    go_wp2_with fail
    refine (refCheck_any _ _ S C _ HD.out _ HKB.out).mono ?_
    rintro e w2 ⟨rfl, hb⟩
    clear lRda lRdb
    replace BW := Lib.hid (BW.out.trans (hb.mono BW.out.size))
    replace HD := Lib.hid (HD.out.below hb)
    replace Rd := Lib.hid (row_keep Rd.out hb)
    clear hb
    go_wp2_with fail
    refine (heads_any _).mono ?_
    rintro e w3 ⟨rfl, hb⟩
    replace BW := Lib.hid (BW.out.trans (hb.mono BW.out.size))
    replace HD := Lib.hid (HD.out.below hb)
    replace Rd := Lib.hid (row_keep Rd.out hb)
    clear hb
    go_wp2
    go_ret
    exact ⟨rfl, BW.out⟩

structure LastX where
  b0 : Bool
  b1 : Bool
  b2 : Bool
  b3 : Bool
  b4 : Bool
  b5 : Bool
  b6 : Bool
  b7 : Bool
  b8 : Bool
  b9 : Bool
  b10 : Bool
  b11 : Bool
  b12 : Bool
  b13 : Bool
  b14 : Bool
  b15 : Bool
  b16 : Bool
  s44 : Value
  s45 : Value
  s46 : Value
  s47 : Value
  s48 : Value
  s49 : Value
  s50 : Value
  s51 : Value
  s52 : Value
  s53 : Value
  s54 : Value
  s43 : Value
  s55 : Value
  s56 : Value
  s8 : Value
  s9 : Value
set_option maxHeartbeats 8000000 in
set_option maxRecDepth 100000 in
theorem diskLast_in (w : World) (s c : Value) (S : List (List UInt8)) (C : List (Int × List UInt8)) (hd : IsDisk w s c S C) (av : Value) (la : List Int) (ha : IsInts w av la) (cv : Value) (lc : List UInt8) (hc : IsArg w cv lc) (hf : fewB S C = true) (hk : chkB S C = true) (h : la.length ≤ 60 ∧ la.length ≤ lc.length) :
    Calls Try.prog 5 #[.agg #[s, c], av, cv] w fun e w' => e = .returned (.bool true) ∧ Below w.heap.size w w' := by
  have HD := Lib.hid hd
  have HA := Lib.hid ha
  have HC := Lib.hid hc
  have hcm := arg_len hc
  obtain ⟨a, ca, a1, c1, rfl, rfl, _, _⟩ := hd.shape
  obtain ⟨ka, kc, rfl, hkm⟩ := ints_shape ha
  obtain ⟨va, vn, vc, rfl, hvn⟩ := hc.shape3
  obtain ⟨n, hSn⟩ : ∃ n, n = S.length := ⟨_, rfl⟩
  obtain ⟨m, hCm⟩ : ∃ m, m = C.length := ⟨_, rfl⟩
  obtain ⟨kn, hkn⟩ : ∃ m, m = la.length := ⟨_, rfl⟩
  rw [← hSn, ← hCm] at HD
  rw [← hkn] at HA hkm h
  rw [← hvn] at hcm h
  rw [← hSn, ← hCm, ← hkn]
  unfold maxLen at hkm hcm
  have HSn := Lib.hid hSn.symm
  have HCm := Lib.hid hCm.symm
  have HKN := Lib.hid hkn.symm
  have HVN := Lib.hid hvn.symm
  have BW := Lib.hid (Below.refl w.heap.size w)
  clear hd ha hc hSn hCm hkn hvn
  have HFB := Lib.hid hf
  have HKB := Lib.hid hk
  have HD0 := Lib.hid HD.out
  have HA0 := Lib.hid HA.out
  have HC0 := Lib.hid HC.out
  have HZA := Lib.hid HA.out.2
  obtain ⟨h60, hle⟩ := h
  have d60 : decide ((60 : Int) < (kn : Nat)) = false := decide_eq_false (by omega)
  have dvn : decide (vn < kn) = false := decide_eq_false (by omega)
  clear hf hk
  have hbx : Below (w).heap.size (w) ((w).alloc (.cells #[.slice a n ca, .slice a1 m c1] 25)) := (Below.refl _ _).alloc (Nat.le_refl _) _
  replace BW := Lib.hid (BW.out.trans (hbx.mono BW.out.size))
  replace HD := Lib.hid (HD.out.below hbx)
  replace HA := Lib.hid (HA.out.below hbx)
  replace HC := Lib.hid (HC.out.below hbx)
  have Rd := Lib.hid (heap_alloc_new (w) (.cells #[.slice a n ca, .slice a1 m c1] 25))
  clear hbx
  go_enter Try.func5, Try.ntmps5
  obtain ⟨⟨lRda, lRdb⟩, lRdc, lRdd⟩ := box_cells Rd.out
  clear lRdc lRdd
  go_wp2_with fail
  refine (few_any _ _ S C _ HD.out _ HFB.out).mono ?_
  rintro e w1 ⟨rfl, hb⟩
  clear lRda lRdb
  replace BW := Lib.hid (BW.out.trans (hb.mono BW.out.size))
  replace HD := Lib.hid (HD.out.below hb)
  replace HA := Lib.hid (HA.out.below hb)
  replace HC := Lib.hid (HC.out.below hb)
  replace Rd := Lib.hid (row_keep Rd.out hb)
  clear hb
  obtain ⟨⟨lRda, lRdb⟩, lRdc, lRdd⟩ := box_cells Rd.out
  clear lRdc lRdd
  go_wp2_with fail
  refine (refCheck_any _ _ S C _ HD.out _ HKB.out).mono ?_
  rintro e w2 ⟨rfl, hb⟩
  clear lRda lRdb
  replace BW := Lib.hid (BW.out.trans (hb.mono BW.out.size))
  replace HD := Lib.hid (HD.out.below hb)
  replace HA := Lib.hid (HA.out.below hb)
  replace HC := Lib.hid (HC.out.below hb)
  replace Rd := Lib.hid (row_keep Rd.out hb)
  clear hb
  go_wp2
  go_loopw [7] (fun x wr => ∃ i : Nat, i ≤ kn ∧ x = .int .i64 i ∧ (∃ b cb eb em ed C1, wr.heap[w.heap.size]? = some (.cells #[.slice b n cb, .slice eb em ed] 25 (0, 0)) ∧ AtHand w wr (.slice b n cb) (.slice eb em ed) S C1 ∧ C1.length = em ∧ chkB S C1 = true) ∧ Below w.heap.size w wr) (fun x _ => kn - (intOf x).toNat)
  case atStart => exact ⟨0, Nat.zero_le _, rfl, ⟨a, ca, a1, m, c1, C, Rd.out, .inl HD0.out, HCm.out, HKB.out⟩, BW.out⟩
  case round =>
    obtain ⟨i, hi, rfl, ⟨b, cb, eb, em, ed, C1, hrd, hat, hm1, hk1⟩, hbw⟩ := hrel
    have Bi := Lib.hid hbw
    have Ri := Lib.hid hrd
    have Ai := Lib.hid hat
    have HM1 := Lib.hid hm1
    have HK1 := Lib.hid hk1
    have HAi := Lib.hid ((HA0.out).below hbw)
    have HCi := Lib.hid ((HC0.out).below hbw)
    have Di := Lib.hid (hat.disk hbw)
    clear hrd hat hm1 hk1 hbw
    by_cases hlt : i < kn
    · obtain ⟨ab, ao, hka, hal⟩ := HAi.out.at i (by rw [HKN.out]; exact hlt)
      obtain ⟨cb2, co, hva, hcl⟩ := arg_at HCi.out i (by rw [HVN.out]; omega)
      subst hka
      subst hva
      obtain ⟨z, hz⟩ : ∃ z, z = la.getD i 0 := ⟨_, rfl⟩
      obtain ⟨y, hy⟩ : ∃ y, y = lc.getD i 0 := ⟨_, rfl⟩
      rw [← hz] at hal
      rw [← hy] at hcl
      have i1 : (0 : Int) ≤ (i : Int) := by omega
      have i2 : (i : Int) < (kn : Int) := by omega
      have i3 : (i : Int) < (vn : Int) := by omega
      clear hz hy
      obtain ⟨L, hL⟩ : ∃ L, List.replicate 256 y = L := ⟨_, rfl⟩
      have HL := Lib.hid (show L.length = 256 by rw [← hL, List.length_replicate])
      have HLY := Lib.hid hL
      obtain ⟨C2, hC2⟩ : ∃ X, writeOf S C1 z L = X := ⟨_, rfl⟩
      obtain ⟨F, hF⟩ : ∃ F, wFault S C1 z L.length = F := ⟨_, rfl⟩
      obtain ⟨m2, hm2⟩ : ∃ m, C2.length = m := ⟨_, rfl⟩
      have HC2 := Lib.hid hC2
      have HF := Lib.hid hF
      have HM2 := Lib.hid hm2
      have HAL := Lib.hid hal
      have HCL := Lib.hid hcl
      have HLD := Lib.hid (show ∀ W, Below wr.heap.size wr W → W.cell? ⟨w.heap.size, 0, none⟩ = some (.slice b n cb) ∧ W.cell? ⟨w.heap.size, 1, none⟩ = some (.slice eb em ed) from fun W h => kept2 (box_cells Ri.out).1 h)
      have HLA := Lib.hid (show ∀ W, Below wr.heap.size wr W → W.cell? ⟨ab, ao + i, none⟩ = some (.int .i64 z) ∧ W.cell? ⟨cb2, co + i, none⟩ = some (.int .u8 (y.toNat : Nat)) from fun W h => ⟨kept HAL.out h, kept HCL.out h⟩)
      clear hL hC2 hF hm2
      obtain ⟨⟨hx1, hx2⟩, hx3, hx4⟩ := box_cells Ri.out
      go_wp2_with fail
      clear hx1 hx2 hx3 hx4 hal hcl
      have HSY := Lib.hid (show ∀ W, Calls Try.prog 25 #[.int .u8 (y.toNat : Nat)] W fun e w' => ∃ g, e = .returned (.slice (some ⟨g, 0, none⟩) 256 256) ∧ IsArg w' (.slice (some ⟨g, 0, none⟩) 256 256) L ∧ Below W.heap.size W w' from fun W => by rw [← HLY.out]; exact sector_any y W)
      refine wp_region_rec (X := LastX) (by kernel_rfl) (by kernel_rfl) (fun x => #[x.b0, x.b1, x.b2, x.b3, x.b4, x.b5, x.b6, x.b7, x.b8, x.b9, x.b10, x.b11, x.b12, x.b13, x.b14, x.b15, x.b16]) (fun x => { tmps := List.toArray ((Value.agg #[Value.slice a n ca, Value.slice a1 m c1]) :: (Value.slice (some ⟨ab, ao, none⟩) kn kc) :: (Value.slice (some ⟨cb2, co, none⟩) vn vc) :: (Value.pointer (some ⟨w.heap.size, 0, none⟩)) :: undef :: undef :: u6 :: (Value.int IntKind.i64 ↑i) :: x.s8 :: x.s9 :: u10 :: u11 :: u12 :: u13 :: u14 :: u15 :: (Value.agg #[Value.slice a n ca, Value.slice a1 m c1]) :: (Value.bool true) :: (Value.bool false) :: (Value.bool false) :: (Value.agg #[Value.slice a n ca, Value.slice a1 m c1]) :: (Value.bool true) :: (Value.bool false) :: (Value.bool false) :: (Value.bool false) :: (Value.slice (some ⟨ab, ao, none⟩) kn kc) :: (Value.int IntKind.i64 ↑kn) :: (Value.bool false) :: (Value.bool false) :: (Value.bool false) :: (Value.slice (some ⟨cb2, co, none⟩) vn vc) :: (Value.int IntKind.i64 ↑vn) :: (Value.slice (some ⟨ab, ao, none⟩) kn kc) :: (Value.int IntKind.i64 ↑kn) :: (Value.bool false) :: (Value.bool false) :: undef :: (Value.int IntKind.i64 ↑i) :: (Value.slice (some ⟨ab, ao, none⟩) kn kc) :: (Value.int IntKind.i64 ↑kn) :: (Value.bool true) :: u41 :: u42 :: x.s43 :: x.s44 :: x.s45 :: x.s46 :: x.s47 :: x.s48 :: x.s49 :: x.s50 :: x.s51 :: x.s52 :: x.s53 :: x.s54 :: x.s55 :: x.s56 :: u57 :: u58 :: u59 :: u60 :: u61 :: u62 :: u63 :: u64 :: u65 :: u66 :: u67 :: u68 :: u69 :: u70 :: u71 :: u72 :: u73 :: u74 :: u75 :: u76 :: u77 :: u78 :: u79 :: u80 :: u81 :: u82 :: u83 :: u84 :: u85 :: u86 :: u87 :: u88 :: u89 :: u90 :: u91 :: u92 :: u93 :: u94 :: u95 :: u96 :: u97 :: u98 :: u99 :: u100 :: u101 :: u102 :: u103 :: u104 :: u105 :: u106 :: u107 :: u108 :: u109 :: u110 :: u111 :: u112 :: u113 :: u114 :: u115 :: u116 :: u117 :: u118 :: undef :: undef :: undef :: undef :: undef :: []), defers := [] }) (fun x W => (x.b0 = true → x.s44 = .agg #[.slice b n cb, .slice eb em ed]) ∧ (x.b1 = true → x.s45 = .slice (some ⟨ab, ao, none⟩) kn kc) ∧ (x.b2 = true → x.s46 = .int .i64 i) ∧ (x.b3 = true → x.s47 = .pointer (some ⟨ab, ao + i, none⟩)) ∧ (x.b4 = true → x.s48 = .int .i64 z) ∧ (x.b5 = true → x.s49 = .slice (some ⟨cb2, co, none⟩) vn vc) ∧ (x.b6 = true → x.s50 = .int .i64 i) ∧ (x.b7 = true → x.s51 = .pointer (some ⟨cb2, co + i, none⟩)) ∧ (x.b8 = true → x.s52 = .int .u8 (y.toNat : Nat)) ∧ (x.b11 = true → x.s43 = x.s54) ∧ (x.b13 = true → x.s56 = .int .i64 F) ∧ (x.b16 = true → x.s9 = .int .i64 F) ∧ (DSt (wr) F S C2 n m2 L x.b9 x.b10 x.b11 x.b12 x.b14 x.b15 x.s53 x.s54 x.s55 x.s8 W)) ⟨false, false, false, false, false, false, false, false, false, false, false, false, false, false, false, false, false, u44, u45, u46, u47, u48, u49, u50, u51, u52, u53, u54, u43, u55, u56, u8, u9⟩ rfl rfl ⟨(fun h => by cases h), (fun h => by cases h), (fun h => by cases h), (fun h => by cases h), (fun h => by cases h), (fun h => by cases h), (fun h => by cases h), (fun h => by cases h), (fun h => by cases h), (fun h => by cases h), (fun h => by cases h), (fun h => by cases h), (DSt.start (Below.refl _ _).drew)⟩ (fun _ => rfl) ?hstep ?hdone
      case hstep =>
        rintro ⟨b0, b1, b2, b3, b4, b5, b6, b7, b8, b9, b10, b11, b12, b13, b14, b15, b16, s44, s45, s46, s47, s48, s49, s50, s51, s52, s53, s54, s43, s55, s56, s8, s9⟩ W hI i hi
        dsimp only at hI hi ⊢
        have HI := Lib.hid hI
        clear hI
        rw [Region.ready, List.mem_filter, List.mem_range] at hi
        obtain ⟨hlt, hp⟩ := hi
        have hi7 : i = 0 ∨ i = 1 ∨ i = 2 ∨ i = 3 ∨ i = 4 ∨ i = 5 ∨ i = 6 ∨ i = 7 ∨ i = 8 ∨ i = 9 ∨ i = 10 ∨ i = 11 ∨ i = 12 ∨ i = 13 ∨ i = 14 ∨ i = 15 ∨ i = 16 := by simp at hlt; omega
        clear hlt
        rcases hi7 with rfl | rfl | rfl | rfl | rfl | rfl | rfl | rfl | rfl | rfl | rfl | rfl | rfl | rfl | rfl | rfl | rfl
        all_goals simp [Region.binds] at hp
        · have hn0 : b0 = false := by revert hp; cases b0 <;> simp
          clear hp
          subst hn0
          refine inv_op (o := ⟨some 44, _, _, _, _, _⟩) rfl (fun K' hK' => ?_)
          have gI := HI.out.2.2.2.2.2.2.2.2.2.2.2.2
          obtain ⟨hc1, hc2⟩ := HLD.out W gI.out
          go_simp
          obtain ⟨h0, h1, h2, h3, h4, h5, h6, h7, h8, h11, h13, h16, gI⟩ := HI.out
          exact hK'.out _ _ ⟨⟨true, b1, b2, b3, b4, b5, b6, b7, b8, b9, b10, b11, b12, b13, b14, b15, b16, _, s45, s46, s47, s48, s49, s50, s51, s52, s53, s54, s43, s55, s56, s8, s9⟩, rfl, rfl, (fun _ => rfl), h1, h2, h3, h4, h5, h6, h7, h8, h11, h13, h16, gI⟩
        · have hn1 : b1 = false := by revert hp; cases b1 <;> simp
          clear hp
          subst hn1
          refine inv_op (o := ⟨some 45, _, _, _, _, _⟩) rfl (fun K' hK' => ?_)
          go_simp
          obtain ⟨h0, h1, h2, h3, h4, h5, h6, h7, h8, h11, h13, h16, gI⟩ := HI.out
          exact hK'.out _ _ ⟨⟨b0, true, b2, b3, b4, b5, b6, b7, b8, b9, b10, b11, b12, b13, b14, b15, b16, s44, _, s46, s47, s48, s49, s50, s51, s52, s53, s54, s43, s55, s56, s8, s9⟩, rfl, rfl, h0, (fun _ => rfl), h2, h3, h4, h5, h6, h7, h8, h11, h13, h16, gI⟩
        · have hn2 : b2 = false := by revert hp; cases b2 <;> simp
          clear hp
          subst hn2
          refine inv_op (o := ⟨some 46, _, _, _, _, _⟩) rfl (fun K' hK' => ?_)
          go_simp
          obtain ⟨h0, h1, h2, h3, h4, h5, h6, h7, h8, h11, h13, h16, gI⟩ := HI.out
          exact hK'.out _ _ ⟨⟨b0, b1, true, b3, b4, b5, b6, b7, b8, b9, b10, b11, b12, b13, b14, b15, b16, s44, s45, _, s47, s48, s49, s50, s51, s52, s53, s54, s43, s55, s56, s8, s9⟩, rfl, rfl, h0, h1, (fun _ => rfl), h3, h4, h5, h6, h7, h8, h11, h13, h16, gI⟩
        · have hn3 : b3 = false := by revert hp; cases b3 <;> simp
          have e1 : b1 = true := by revert hp; cases b1 <;> simp
          have e2 : b2 = true := by revert hp; cases b2 <;> simp
          clear hp
          obtain rfl := (HI.out.2.1) e1
          obtain rfl := (HI.out.2.2.1) e2
          subst hn3
          refine inv_op (o := ⟨some 47, _, _, _, _, _⟩) rfl (fun K' hK' => ?_)
          go_simp
          obtain ⟨h0, h1, h2, h3, h4, h5, h6, h7, h8, h11, h13, h16, gI⟩ := HI.out
          exact hK'.out _ _ ⟨⟨b0, b1, b2, true, b4, b5, b6, b7, b8, b9, b10, b11, b12, b13, b14, b15, b16, s44, _, _, _, s48, s49, s50, s51, s52, s53, s54, s43, s55, s56, s8, s9⟩, rfl, rfl, h0, h1, h2, (fun _ => rfl), h4, h5, h6, h7, h8, h11, h13, h16, gI⟩
        · have hn4 : b4 = false := by revert hp; cases b4 <;> simp
          have e3 : b3 = true := by revert hp; cases b3 <;> simp
          clear hp
          obtain rfl := (HI.out.2.2.2.1) e3
          subst hn4
          refine inv_op (o := ⟨some 48, _, _, _, _, _⟩) rfl (fun K' hK' => ?_)
          have gI := HI.out.2.2.2.2.2.2.2.2.2.2.2.2
          obtain ⟨hc1, hc2⟩ := HLA.out W gI.out
          go_simp
          obtain ⟨h0, h1, h2, h3, h4, h5, h6, h7, h8, h11, h13, h16, gI⟩ := HI.out
          exact hK'.out _ _ ⟨⟨b0, b1, b2, b3, true, b5, b6, b7, b8, b9, b10, b11, b12, b13, b14, b15, b16, s44, s45, s46, _, _, s49, s50, s51, s52, s53, s54, s43, s55, s56, s8, s9⟩, rfl, rfl, h0, h1, h2, h3, (fun _ => rfl), h5, h6, h7, h8, h11, h13, h16, gI⟩
        · have hn5 : b5 = false := by revert hp; cases b5 <;> simp
          clear hp
          subst hn5
          refine inv_op (o := ⟨some 49, _, _, _, _, _⟩) rfl (fun K' hK' => ?_)
          go_simp
          obtain ⟨h0, h1, h2, h3, h4, h5, h6, h7, h8, h11, h13, h16, gI⟩ := HI.out
          exact hK'.out _ _ ⟨⟨b0, b1, b2, b3, b4, true, b6, b7, b8, b9, b10, b11, b12, b13, b14, b15, b16, s44, s45, s46, s47, s48, _, s50, s51, s52, s53, s54, s43, s55, s56, s8, s9⟩, rfl, rfl, h0, h1, h2, h3, h4, (fun _ => rfl), h6, h7, h8, h11, h13, h16, gI⟩
        · have hn6 : b6 = false := by revert hp; cases b6 <;> simp
          clear hp
          subst hn6
          refine inv_op (o := ⟨some 50, _, _, _, _, _⟩) rfl (fun K' hK' => ?_)
          go_simp
          obtain ⟨h0, h1, h2, h3, h4, h5, h6, h7, h8, h11, h13, h16, gI⟩ := HI.out
          exact hK'.out _ _ ⟨⟨b0, b1, b2, b3, b4, b5, true, b7, b8, b9, b10, b11, b12, b13, b14, b15, b16, s44, s45, s46, s47, s48, s49, _, s51, s52, s53, s54, s43, s55, s56, s8, s9⟩, rfl, rfl, h0, h1, h2, h3, h4, h5, (fun _ => rfl), h7, h8, h11, h13, h16, gI⟩
        · have hn7 : b7 = false := by revert hp; cases b7 <;> simp
          have e5 : b5 = true := by revert hp; cases b5 <;> simp
          have e6 : b6 = true := by revert hp; cases b6 <;> simp
          clear hp
          obtain rfl := (HI.out.2.2.2.2.2.1) e5
          obtain rfl := (HI.out.2.2.2.2.2.2.1) e6
          subst hn7
          refine inv_op (o := ⟨some 51, _, _, _, _, _⟩) rfl (fun K' hK' => ?_)
          go_simp
          obtain ⟨h0, h1, h2, h3, h4, h5, h6, h7, h8, h11, h13, h16, gI⟩ := HI.out
          exact hK'.out _ _ ⟨⟨b0, b1, b2, b3, b4, b5, b6, true, b8, b9, b10, b11, b12, b13, b14, b15, b16, s44, s45, s46, s47, s48, _, _, _, s52, s53, s54, s43, s55, s56, s8, s9⟩, rfl, rfl, h0, h1, h2, h3, h4, h5, h6, (fun _ => rfl), h8, h11, h13, h16, gI⟩
        · have hn8 : b8 = false := by revert hp; cases b8 <;> simp
          have e7 : b7 = true := by revert hp; cases b7 <;> simp
          clear hp
          obtain rfl := (HI.out.2.2.2.2.2.2.2.1) e7
          subst hn8
          refine inv_op (o := ⟨some 52, _, _, _, _, _⟩) rfl (fun K' hK' => ?_)
          have gI := HI.out.2.2.2.2.2.2.2.2.2.2.2.2
          obtain ⟨hc1, hc2⟩ := HLA.out W gI.out
          go_simp
          obtain ⟨h0, h1, h2, h3, h4, h5, h6, h7, h8, h11, h13, h16, gI⟩ := HI.out
          exact hK'.out _ _ ⟨⟨b0, b1, b2, b3, b4, b5, b6, b7, true, b9, b10, b11, b12, b13, b14, b15, b16, s44, s45, s46, s47, s48, s49, s50, _, _, s53, s54, s43, s55, s56, s8, s9⟩, rfl, rfl, h0, h1, h2, h3, h4, h5, h6, h7, (fun _ => rfl), h11, h13, h16, gI⟩
        · have hn9 : b9 = false := by revert hp; cases b9 <;> simp
          have e8 : b8 = true := by revert hp; cases b8 <;> simp
          clear hp
          obtain rfl := (HI.out.2.2.2.2.2.2.2.2.1) e8
          subst hn9
          refine inv_op (o := ⟨some 53, _, _, _, _, _⟩) rfl (fun K' hK' => ?_)
          go_simp
          refine (HSY.out _).mono ?_
          rintro e w1 ⟨g, rfl, hr, bn⟩
          obtain ⟨h0, h1, h2, h3, h4, h5, h6, h7, h8, h11, h13, h16, gI⟩ := HI.out
          exact hK'.out _ _ ⟨⟨b0, b1, b2, b3, b4, b5, b6, b7, b8, true, b10, b11, b12, b13, b14, b15, b16, s44, s45, s46, s47, s48, s49, s50, s51, _, _, s54, s43, s55, s56, s8, s9⟩, rfl, rfl, h0, h1, h2, h3, h4, h5, h6, h7, h8, h11, h13, h16, (gI.one bn hr)⟩
        · have hn10 : b10 = false := by revert hp; cases b10 <;> simp
          have e0 : b0 = true := by revert hp; cases b0 <;> simp
          have e4 : b4 = true := by revert hp; cases b4 <;> simp
          have e9 : b9 = true := by revert hp; cases b9 <;> simp
          clear hp
          obtain rfl := (HI.out.1) e0
          obtain rfl := (HI.out.2.2.2.2.1) e4
          subst hn10
          refine inv_op (o := ⟨some 54, _, _, _, _, _⟩) rfl (fun K' hK' => ?_)
          have gI := HI.out.2.2.2.2.2.2.2.2.2.2.2.2
          have hb7 : b15 = false := by cases b15 with | false => rfl | true => exact absurd (gI.o3 (gI.o4 (gI.o8 rfl))) (by decide)
          subst hb7
          obtain ⟨gs, rfl, hs⟩ := gI.g1 e9 rfl
          go_simp
          refine (write_put _ _ S C1 (few_chk HK1.out) z _ L (by rw [HL.out]; decide) F S C2 n m2 HF.out rfl HC2.out HSn.out HM2.out _ (Di.out.below gI.out) hs).mono ?_
          rintro e w1 ⟨a, p, b, q, B, rfl, hr, bn⟩
          obtain ⟨h0, h1, h2, h3, h4, h5, h6, h7, h8, h11, h13, h16, gI⟩ := HI.out
          exact hK'.out _ _ ⟨⟨b0, b1, b2, b3, b4, b5, b6, b7, b8, b9, true, b11, b12, b13, b14, false, b16, _, s45, s46, s47, _, s49, s50, s51, s52, _, _, s43, s55, s56, s8, s9⟩, rfl, rfl, h0, h1, h2, h3, h4, h5, h6, h7, h8, (fun e3 => absurd (gI.o3 e3) (by decide)), h13, h16, (gI.two bn hr)⟩
        · have hn11 : b11 = false := by revert hp; cases b11 <;> simp
          have e10 : b10 = true := by revert hp; cases b10 <;> simp
          clear hp
          subst hn11
          refine inv_op (o := ⟨some 43, _, _, _, _, _⟩) rfl (fun K' hK' => ?_)
          subst e10
          go_simp
          obtain ⟨h0, h1, h2, h3, h4, h5, h6, h7, h8, h11, h13, h16, gI⟩ := HI.out
          exact hK'.out _ _ ⟨⟨b0, b1, b2, b3, b4, b5, b6, b7, b8, b9, true, true, b12, b13, b14, b15, b16, s44, s45, s46, s47, s48, s49, s50, s51, s52, s53, _, _, s55, s56, s8, s9⟩, rfl, rfl, h0, h1, h2, h3, h4, h5, h6, h7, h8, (fun _ => rfl), h13, h16, gI.three⟩
        · have hn12 : b12 = false := by revert hp; cases b12 <;> simp
          have e11 : b11 = true := by revert hp; cases b11 <;> simp
          clear hp
          obtain rfl := (HI.out.2.2.2.2.2.2.2.2.2.1) e11
          subst hn12
          refine inv_op (o := ⟨some 55, _, _, _, _, _⟩) rfl (fun K' hK' => ?_)
          have gI := HI.out.2.2.2.2.2.2.2.2.2.2.2.2
          obtain ⟨a, p, b, q, B, rfl, _⟩ := gI.g2 (gI.o3 e11)
          subst e11
          go_simp
          obtain ⟨h0, h1, h2, h3, h4, h5, h6, h7, h8, h11, h13, h16, gI⟩ := HI.out
          exact hK'.out _ _ ⟨⟨b0, b1, b2, b3, b4, b5, b6, b7, b8, b9, b10, true, true, b13, b14, b15, b16, s44, s45, s46, s47, s48, s49, s50, s51, s52, s53, _, _, _, s56, s8, s9⟩, rfl, rfl, h0, h1, h2, h3, h4, h5, h6, h7, h8, h11, h13, h16, gI.four⟩
        · have hn13 : b13 = false := by revert hp; cases b13 <;> simp
          have e11 : b11 = true := by revert hp; cases b11 <;> simp
          clear hp
          obtain rfl := (HI.out.2.2.2.2.2.2.2.2.2.1) e11
          subst hn13
          refine inv_op (o := ⟨some 56, _, _, _, _, _⟩) rfl (fun K' hK' => ?_)
          have gI := HI.out.2.2.2.2.2.2.2.2.2.2.2.2
          obtain ⟨a, p, b, q, B, rfl, _⟩ := gI.g2 (gI.o3 e11)
          go_simp
          obtain ⟨h0, h1, h2, h3, h4, h5, h6, h7, h8, h11, h13, h16, gI⟩ := HI.out
          exact hK'.out _ _ ⟨⟨b0, b1, b2, b3, b4, b5, b6, b7, b8, b9, b10, b11, b12, true, b14, b15, b16, s44, s45, s46, s47, s48, s49, s50, s51, s52, s53, _, _, s55, _, s8, s9⟩, rfl, rfl, h0, h1, h2, h3, h4, h5, h6, h7, h8, h11, (fun _ => rfl), h16, gI⟩
        · have hn14 : b14 = false := by revert hp; cases b14 <;> simp
          clear hp
          subst hn14
          refine inv_op (o := ⟨some 8, _, _, _, _, _⟩) rfl (fun K' hK' => ?_)
          go_simp
          obtain ⟨h0, h1, h2, h3, h4, h5, h6, h7, h8, h11, h13, h16, gI⟩ := HI.out
          exact hK'.out _ _ ⟨⟨b0, b1, b2, b3, b4, b5, b6, b7, b8, b9, b10, b11, b12, b13, true, b15, b16, s44, s45, s46, s47, s48, s49, s50, s51, s52, s53, s54, s43, s55, s56, _, s9⟩, rfl, rfl, h0, h1, h2, h3, h4, h5, h6, h7, h8, h11, h13, h16, gI.six⟩
        · have hn15 : b15 = false := by revert hp; cases b15 <;> simp
          have e14 : b14 = true := by revert hp; cases b14 <;> simp
          have e12 : b12 = true := by revert hp; cases b12 <;> simp
          clear hp
          subst hn15
          refine inv_op (o := ⟨none, _, _, _, _, _⟩) rfl (fun K' hK' => ?_)
          have gI := HI.out.2.2.2.2.2.2.2.2.2.2.2.2
          obtain ⟨gx, rfl, hgx, hrow⟩ := gI.g6 e14 rfl
          obtain ⟨a, p, b, q, B, hw, hown⟩ := gI.g2 (gI.o3 (gI.o4 e12))
          obtain ⟨v, hv⟩ := gI.p4 e12
          obtain ⟨rfl, hvv⟩ := tuple_two (hv.symm.trans hw)
          clear hv hw hvv
          subst e14
          obtain ⟨⟨hc1, hc2⟩, hz1, hz2⟩ := box_cells hrow
          have hlx := (Array.getElem?_eq_some_iff.1 hrow).1
          go_simp
          obtain ⟨h0, h1, h2, h3, h4, h5, h6, h7, h8, h11, h13, h16, gI⟩ := HI.out
          exact hK'.out _ _ ⟨⟨b0, b1, b2, b3, b4, b5, b6, b7, b8, b9, b10, b11, b12, b13, true, true, b16, s44, s45, s46, s47, s48, s49, s50, s51, s52, s53, s54, s43, _, s56, _, s9⟩, rfl, rfl, h0, h1, h2, h3, h4, h5, h6, h7, h8, h11, h13, h16, (gI.seven e12 hown hgx hrow)⟩
        · have hn16 : b16 = false := by revert hp; cases b16 <;> simp
          have e13 : b13 = true := by revert hp; cases b13 <;> simp
          clear hp
          obtain rfl := (HI.out.2.2.2.2.2.2.2.2.2.2.1) e13
          subst hn16
          refine inv_op (o := ⟨some 9, _, _, _, _, _⟩) rfl (fun K' hK' => ?_)
          go_simp
          obtain ⟨h0, h1, h2, h3, h4, h5, h6, h7, h8, h11, h13, h16, gI⟩ := HI.out
          exact hK'.out _ _ ⟨⟨b0, b1, b2, b3, b4, b5, b6, b7, b8, b9, b10, b11, b12, b13, b14, b15, true, s44, s45, s46, s47, s48, s49, s50, s51, s52, s53, s54, s43, s55, _, s8, _⟩, rfl, rfl, h0, h1, h2, h3, h4, h5, h6, h7, h8, h11, h13, (fun _ => rfl), gI⟩
      case hdone =>
        rintro ⟨b0, b1, b2, b3, b4, b5, b6, b7, b8, b9, b10, b11, b12, b13, b14, b15, b16, s44, s45, s46, s47, s48, s49, s50, s51, s52, s53, s54, s43, s55, s56, s8, s9⟩ W hI hall
        dsimp only at hI hall ⊢
        have HI := Lib.hid hI
        clear hI
        obtain rfl : b0 = true := hall 0 (by decide)
        obtain rfl : b1 = true := hall 1 (by decide)
        obtain rfl : b2 = true := hall 2 (by decide)
        obtain rfl : b3 = true := hall 3 (by decide)
        obtain rfl : b4 = true := hall 4 (by decide)
        obtain rfl : b5 = true := hall 5 (by decide)
        obtain rfl : b6 = true := hall 6 (by decide)
        obtain rfl : b7 = true := hall 7 (by decide)
        obtain rfl : b8 = true := hall 8 (by decide)
        obtain rfl : b9 = true := hall 9 (by decide)
        obtain rfl : b10 = true := hall 10 (by decide)
        obtain rfl : b11 = true := hall 11 (by decide)
        obtain rfl : b12 = true := hall 12 (by decide)
        obtain rfl : b13 = true := hall 13 (by decide)
        obtain rfl : b14 = true := hall 14 (by decide)
        obtain rfl : b15 = true := hall 15 (by decide)
        obtain rfl : b16 = true := hall 16 (by decide)
        obtain rfl := (HI.out.1) rfl
        obtain rfl := (HI.out.2.1) rfl
        obtain rfl := (HI.out.2.2.1) rfl
        obtain rfl := (HI.out.2.2.2.1) rfl
        obtain rfl := (HI.out.2.2.2.2.1) rfl
        obtain rfl := (HI.out.2.2.2.2.2.1) rfl
        obtain rfl := (HI.out.2.2.2.2.2.2.1) rfl
        obtain rfl := (HI.out.2.2.2.2.2.2.2.1) rfl
        obtain rfl := (HI.out.2.2.2.2.2.2.2.2.1) rfl
        obtain rfl := (HI.out.2.2.2.2.2.2.2.2.2.1) rfl
        obtain rfl := (HI.out.2.2.2.2.2.2.2.2.2.2.1) rfl
        obtain rfl := (HI.out.2.2.2.2.2.2.2.2.2.2.2.1) rfl
        have gI := HI.out.2.2.2.2.2.2.2.2.2.2.2.2
        clear HI hall
        obtain ⟨w11, hwN⟩ : ∃ x, x = W := ⟨_, rfl⟩
        subst hwN
        obtain ⟨gx, ax, px, bx, qx, Bx, rfl, hrw, hdw⟩ := gI.g7 rfl
        have hbW := gI.out
        replace Bi := Lib.hid (Bi.out.trans (hbW.mono Bi.out.size))
        replace Ri := Lib.hid (row_keep Ri.out hbW)
        replace HAi := Lib.hid (HAi.out.below hbW)
        replace HCi := Lib.hid (HCi.out.below hbW)
        replace Di := Lib.hid (Di.out.below hbW)
        replace Ai := Lib.hid (Ai.out.below hbW)
        replace HAL := Lib.hid (kept HAL.out hbW)
        replace HCL := Lib.hid (kept HCL.out hbW)
        have Rx := Lib.hid hrw
        have Dx := Lib.hid hdw.disk
        have Ox := Lib.hid hdw
        clear gI hrw hdw hbW
        clear HLD HLA
        by_cases hF0 : F = 0
        · subst hF0
          have HCE := Lib.hid (show C2 = C1 ++ [(z, L)] by rw [← HC2.out, writeOf_zero HF.out])
          obtain ⟨hr1, hr2, hr3, hr4⟩ := read_last HF.out
          rw [← HCE.out] at hr1 hr2 hr3 hr4
          have hck := chk_write HF.out
          rw [← HCE.out] at hck
          have HK2 := Lib.hid hck
          obtain ⟨S3, hS3⟩ : ∃ X, X = settledOf S C2 every := ⟨_, rfl⟩
          rw [← hS3] at hr3 hr4
          have HR1 := Lib.hid hr1
          have HR2 := Lib.hid hr2
          have HR3 := Lib.hid hr3
          have HR4 := Lib.hid hr4
          have HS3 := Lib.hid (show flushOf S C2 every = S3 by rw [flush_chk _ HK2.out, hS3])
          have HN3 := Lib.hid (show S3.length = n by rw [hS3, settled_length]; exact HSn.out)
          clear hr1 hr2 hr3 hr4 hck hS3
          obtain ⟨⟨lRxa, lRxb⟩, lRxc, lRxd⟩ := box_cells Rx.out
          clear lRxc lRxd
          have hq1 := HAL.out
          go_wp2_with fail
          go_region_held3 (fun w' => w'.cell? ⟨gx, 0, none⟩ = some (.slice ax n px) ∧ w'.cell? ⟨gx, 1, none⟩ = some (.slice bx m2 qx) ∧ w'.cell? ⟨ab, ao + i, none⟩ = some (.int .i64 z)) (first | (with_reducible exact ⟨lRxa, lRxb, hq1⟩) | (with_reducible exact ⟨kept_drew lRxa hb, kept_drew lRxb hb, kept_drew hq1 hb⟩) | go_keep) (first
            | (go_at_call 13; refine (read_this _ _ S C2 z 0 L 256 HR1.out HR2.out HL.out _ (Dx.out.below (Below.refl _ _).drew)).mono ?_; rintro e w12 ⟨ar, cr, rfl, hd, hb⟩; have Ar := Lib.hid hd; clear hd))
          have hbr : Below (w11).heap.size (w11) w12 := ((Below.refl _ _).drew).trans hb
          clear hb hq1 lRxa lRxb
          replace Bi := Lib.hid (Bi.out.trans (hbr.mono Bi.out.size))
          replace Ri := Lib.hid (row_keep Ri.out hbr)
          replace HAi := Lib.hid (HAi.out.below hbr)
          replace HCi := Lib.hid (HCi.out.below hbr)
          replace Di := Lib.hid (Di.out.below hbr)
          replace Ai := Lib.hid (Ai.out.below hbr)
          replace HAL := Lib.hid (kept HAL.out hbr)
          replace HCL := Lib.hid (kept HCL.out hbr)
          replace Rx := Lib.hid (row_keep Rx.out hbr)
          replace Dx := Lib.hid (Dx.out.below hbr)
          replace Ox := Lib.hid (Ox.out.below hbr)
          clear hbr
          obtain ⟨⟨lRxa, lRxb⟩, lRxc, lRxd⟩ := box_cells Rx.out
          clear lRxc lRxd
          go_wp2_with fail
          refine (flush_this _ _ S C2 (few_chk HK2.out) 0 S3 [] n 0 (form_chk HK2.out) HS3.out (cache_chk HK2.out) HN3.out rfl _ Dx.out).mono ?_
          rintro e w13 ⟨af, pf, bf, qf, rfl, hd, hb⟩
          clear lRxa lRxb
          replace Bi := Lib.hid (Bi.out.trans (hb.mono Bi.out.size))
          replace Ri := Lib.hid (row_keep Ri.out hb)
          replace HAi := Lib.hid (HAi.out.below hb)
          replace HCi := Lib.hid (HCi.out.below hb)
          replace Di := Lib.hid (Di.out.below hb)
          replace Ai := Lib.hid (Ai.out.below hb)
          replace HAL := Lib.hid (kept HAL.out hb)
          replace HCL := Lib.hid (kept HCL.out hb)
          replace Rx := Lib.hid (row_keep Rx.out hb)
          replace Dx := Lib.hid (Dx.out.below hb)
          replace Ox := Lib.hid (Ox.out.below hb)
          replace Ar := Lib.hid (Ar.out.below hb)
          have Df := Lib.hid hd
          clear hd hb
          have hbx : Below (w13).heap.size (w13) ((w13).alloc (.cells #[.slice af n pf, .slice bf 0 qf] 25)) := (Below.refl _ _).alloc (Nat.le_refl _) _
          replace Bi := Lib.hid (Bi.out.trans (hbx.mono Bi.out.size))
          replace Ri := Lib.hid (row_keep Ri.out hbx)
          replace HAi := Lib.hid (HAi.out.below hbx)
          replace HCi := Lib.hid (HCi.out.below hbx)
          replace Di := Lib.hid (Di.out.below hbx)
          replace Ai := Lib.hid (Ai.out.below hbx)
          replace HAL := Lib.hid (kept HAL.out hbx)
          replace HCL := Lib.hid (kept HCL.out hbx)
          replace Rx := Lib.hid (row_keep Rx.out hbx)
          replace Dx := Lib.hid (Dx.out.below hbx)
          replace Ox := Lib.hid (Ox.out.below hbx)
          replace Ar := Lib.hid (Ar.out.below hbx)
          replace Df := Lib.hid (Df.out.below hbx)
          have Rf := Lib.hid (heap_alloc_new (w13) (.cells #[.slice af n pf, .slice bf 0 qf] 25))
          clear hbx
          obtain ⟨⟨lRfa, lRfb⟩, lRfc, lRfd⟩ := box_cells Rf.out
          clear lRfc lRfd
          have hq1 := HAL.out
          go_wp2_with fail
          go_region_held3 (fun w' => w'.cell? ⟨w13.heap.size, 0, none⟩ = some (.slice af n pf) ∧ w'.cell? ⟨w13.heap.size, 1, none⟩ = some (.slice bf 0 qf) ∧ w'.cell? ⟨ab, ao + i, none⟩ = some (.int .i64 z)) (first | (with_reducible exact ⟨lRfa, lRfb, hq1⟩) | (with_reducible exact ⟨kept_drew lRfa hb, kept_drew lRfb hb, kept_drew hq1 hb⟩) | go_keep) (first
            | (go_at_call 13; refine (read_this _ _ S3 [] z 0 L 256 HR3.out HR4.out HL.out _ (Df.out.below (Below.refl _ _).drew)).mono ?_; rintro e w14 ⟨au, cu, rfl, hd, hb⟩; have Au := Lib.hid hd; clear hd))
          have hbr : Below ((w13).alloc (.cells #[.slice af n pf, .slice bf 0 qf] 25)).heap.size ((w13).alloc (.cells #[.slice af n pf, .slice bf 0 qf] 25)) w14 := ((Below.refl _ _).drew).trans hb
          clear hb hq1 lRfa lRfb
          replace Bi := Lib.hid (Bi.out.trans (hbr.mono Bi.out.size))
          replace Ri := Lib.hid (row_keep Ri.out hbr)
          replace HAi := Lib.hid (HAi.out.below hbr)
          replace HCi := Lib.hid (HCi.out.below hbr)
          replace Di := Lib.hid (Di.out.below hbr)
          replace Ai := Lib.hid (Ai.out.below hbr)
          replace HAL := Lib.hid (kept HAL.out hbr)
          replace HCL := Lib.hid (kept HCL.out hbr)
          replace Rx := Lib.hid (row_keep Rx.out hbr)
          replace Dx := Lib.hid (Dx.out.below hbr)
          replace Ox := Lib.hid (Ox.out.below hbr)
          replace Ar := Lib.hid (Ar.out.below hbr)
          replace Df := Lib.hid (Df.out.below hbr)
          replace Rf := Lib.hid (row_keep Rf.out hbr)
          clear hbr
          have hq1 := HCL.out
          go_wp2_with fail
          refine (HSY.out _).mono ?_
          rintro e w15 ⟨gs, rfl, hd, hb⟩
          clear hq1
          replace Bi := Lib.hid (Bi.out.trans (hb.mono Bi.out.size))
          replace Ri := Lib.hid (row_keep Ri.out hb)
          replace HAi := Lib.hid (HAi.out.below hb)
          replace HCi := Lib.hid (HCi.out.below hb)
          replace Di := Lib.hid (Di.out.below hb)
          replace Ai := Lib.hid (Ai.out.below hb)
          replace HAL := Lib.hid (kept HAL.out hb)
          replace HCL := Lib.hid (kept HCL.out hb)
          replace Rx := Lib.hid (row_keep Rx.out hb)
          replace Dx := Lib.hid (Dx.out.below hb)
          replace Ox := Lib.hid (Ox.out.below hb)
          replace Ar := Lib.hid (Ar.out.below hb)
          replace Df := Lib.hid (Df.out.below hb)
          replace Rf := Lib.hid (row_keep Rf.out hb)
          replace Au := Lib.hid (Au.out.below hb)
          have Ag := Lib.hid hd
          clear hd hb
          go_wp2_with fail
          refine (bytes_same _ _ L _ Ar.out.1 Ag.out.1).mono ?_
          rintro e w0 ⟨rfl, rfl⟩
          obtain ⟨⟨lRfa, lRfb⟩, lRfc, lRfd⟩ := box_cells Rf.out
          clear lRfc lRfd
          go_wp2_with fail
          refine (bytes_same _ _ L _ Au.out.1 Ar.out.1).mono ?_
          rintro e w0 ⟨rfl, rfl⟩
          obtain ⟨⟨lRxa, lRxb⟩, lRxc, lRxd⟩ := box_cells Rx.out
          clear lRxc lRxd
          obtain ⟨⟨lRia, lRib⟩, lRic, lRid⟩ := box_cells Ri.out
          have hlx := (Array.getElem?_eq_some_iff.1 Ri.out).1
          go_wp2
          clear lRfa lRfb lRxa lRxb lRia lRib lRic lRid
          go_roundw
          case rel => exact ⟨i + 1, by omega, by go_num, ⟨ax, px, bx, m2, qx, C2, box_put Ri.out, .inr ⟨Bx, (Ox.out.box Ri.out 0 _).box (heap_setCell_same _ _ 0 _ _ _ Ri.out) 1 _⟩, HM2.out, HK2.out⟩, (Bi.out.setCell (Nat.le_refl _) _).setCell (Nat.le_refl _) _⟩
          case measure => simp [intOf]; omega
        · skip
          have HCE := Lib.hid (show C2 = C1 by rw [← HC2.out, writeOf_other (by rw [HF.out]; exact hF0)])
          obtain ⟨⟨lRxa, lRxb⟩, lRxc, lRxd⟩ := box_cells Rx.out
          clear lRxc lRxd
          obtain ⟨⟨lRia, lRib⟩, lRic, lRid⟩ := box_cells Ri.out
          clear lRic lRid
          go_wp2_with fail
          refine (alike_any _ _ _ _ S C1 _ (by rw [← HCE.out]; exact Dx.out) Di.out).mono ?_
          rintro e w12 ⟨rfl, hb⟩
          clear lRxa lRxb lRia lRib
          replace Bi := Lib.hid (Bi.out.trans (hb.mono Bi.out.size))
          replace Ri := Lib.hid (row_keep Ri.out hb)
          replace HAi := Lib.hid (HAi.out.below hb)
          replace HCi := Lib.hid (HCi.out.below hb)
          replace Di := Lib.hid (Di.out.below hb)
          replace Ai := Lib.hid (Ai.out.below hb)
          replace HAL := Lib.hid (kept HAL.out hb)
          replace HCL := Lib.hid (kept HCL.out hb)
          replace Rx := Lib.hid (row_keep Rx.out hb)
          replace Dx := Lib.hid (Dx.out.below hb)
          replace Ox := Lib.hid (Ox.out.below hb)
          clear hb
          go_wp2
          go_roundw
          case rel => exact ⟨i + 1, by omega, by go_num, ⟨b, cb, eb, em, ed, C1, Ri.out, Ai.out, HM1.out, HK1.out⟩, Bi.out⟩
          case measure => simp [intOf]; omega
    · obtain rfl : i = kn := by omega
      obtain ⟨wA, hwA⟩ : ∃ x, x = wr := ⟨_, rfl⟩
      subst hwA
      obtain ⟨⟨lRia, lRib⟩, lRic, lRid⟩ := box_cells Ri.out
      clear lRic lRid
      go_wp2_with fail
      refine (check_any _ _ S C1 _ Di.out true HK1.out).mono ?_
      rintro e w91 ⟨rfl, hb⟩
      clear lRia lRib
      replace Bi := Lib.hid (Bi.out.trans (hb.mono Bi.out.size))
      replace Ri := Lib.hid (row_keep Ri.out hb)
      replace Di := Lib.hid (Di.out.below hb)
      clear hb
      go_wp2_with fail
      refine (heads_any _).mono ?_
      rintro e w92 ⟨rfl, hb⟩
      replace Bi := Lib.hid (Bi.out.trans (hb.mono Bi.out.size))
      replace Ri := Lib.hid (row_keep Ri.out hb)
      replace Di := Lib.hid (Di.out.below hb)
      clear hb
      go_wp2
      go_ret
      exact ⟨rfl, Bi.out⟩

theorem diskLast_law (w : World) (s c : Value) (S : List (List UInt8)) (C : List (Int × List UInt8)) (hd : IsDisk w s c S C) (av : Value) (la : List Int) (ha : IsInts w av la) (cv : Value) (lc : List UInt8) (hc : IsArg w cv lc) :
    Calls Try.prog 5 #[.agg #[s, c], av, cv] w fun e w' => e = .returned (.bool true) ∧ Below w.heap.size w w' := by
  cases hf : fewB S C with
  | false => exact diskLast_out w s c S C hd av la ha cv lc hc (.inl hf)
  | true =>
    cases hk : chkB S C with
    | false => exact diskLast_out w s c S C hd av la ha cv lc hc (.inr (.inl ⟨hf, hk⟩))
    | true =>
      by_cases h : 60 < la.length
      · exact diskLast_out w s c S C hd av la ha cv lc hc (.inr (.inr (.inl ⟨hf, hk, h⟩)))
      · by_cases h2 : lc.length < la.length
        · exact diskLast_out w s c S C hd av la ha cv lc hc (.inr (.inr (.inr ⟨hf, hk, by omega, h2⟩)))
        · exact diskLast_in w s c S C hd av la ha cv lc hc hf hk ⟨by omega, by omega⟩
end Go.Proofs.Ytaamjpcpdlanhaa
