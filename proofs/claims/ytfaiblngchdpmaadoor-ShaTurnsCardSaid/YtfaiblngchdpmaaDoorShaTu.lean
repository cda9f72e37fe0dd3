/- The law ShaTurns returns true for every input, where the two tables hold what is laid. -/
import Derived.Test.YtfaiblngchdpmaaDoorShaRK
import Derived.Test.YtfaiblngchdpmaaDoorShaH
import Derived.Test.YtfaiblngchdpmaaDoorZero
namespace Go.Proofs.YtfaiblngchdpmaaDoor
open Go.RowKit Go.Lib

theorem words_both (v : Value) (l : List UInt8) : ∃ ws : List Nat, ws.length = 64 ∧ (∀ W, IsArg W v l → Calls Tryd.prog 8 #[v] W fun e w' => e = .returned (.agg (u32s ws).toArray) ∧ Below W.heap.size W w') ∧
    (∀ W, IsArg W v l → Calls Tryd.prog 9 #[v] W fun e w' => e = .returned (.agg (u32s ws).toArray) ∧ Below W.heap.size W w') := by
  by_cases h : l.length = 64
  · exact ⟨wTo l 64, wTo_length l 64, fun W hv => words_this v l W hv.1 h, fun W hv => refWords_this v l W hv.1 h⟩
  · refine ⟨List.replicate 64 0, by simp, fun W hv => ?_, fun W hv => ?_⟩
    · obtain ⟨a, c, rfl⟩ := hv.1.shape
      exact words_other a _ c h W
    · obtain ⟨a, c, rfl⟩ := hv.1.shape
      exact refWords_other a _ c h W
theorem turn_both (v : Value) (l : List UInt8) (h : List Nat) (h8 : h.length = 8) (h32 : All32 h) : ∃ ws : List Nat, ws.length = 8 ∧ (∀ W, IsBytes W v l → Laid W → Calls Tryd.prog 10 #[.agg (u32s h).toArray, v] W fun e w' => e = .returned (.agg (u32s ws).toArray) ∧ Below W.heap.size W w') ∧
    (∀ W, IsBytes W v l → Calls Tryd.prog 11 #[.agg (u32s h).toArray, v] W fun e w' => e = .returned (.agg (u32s ws).toArray) ∧ Below W.heap.size W w') := by
  by_cases h6 : l.length = 64
  · exact ⟨turnOf h l, turnOf_length h l h8, fun W hv hL => turn_this v l h h8 h32 W hv h6 hL, fun W hv => refTurn_this v l h h8 h32 W hv h6⟩
  · refine ⟨h, h8, fun W hv hL => ?_, fun W hv => ?_⟩
    · obtain ⟨a, c, rfl⟩ := hv.shape
      exact turn_other a _ c h h8 h6 W
    · obtain ⟨a, c, rfl⟩ := hv.shape
      exact refTurn_other a _ c h h8 h6 W
theorem pad_both (z : Int) (hz : z ≤ 2000) : ∃ PD : List UInt8, (∀ W, Calls Tryd.prog 13 #[.int .i64 z] W fun e w' => ∃ a9 c9, e = .returned (.slice a9 PD.length c9) ∧ IsBytes w' (.slice a9 PD.length c9) PD ∧ Below W.heap.size W w') ∧
    (∀ W, Calls Tryd.prog 14 #[.int .i64 z] W fun e w' => ∃ a9 c9, e = .returned (.slice a9 PD.length c9) ∧ IsBytes w' (.slice a9 PD.length c9) PD ∧ Below W.heap.size W w') := by
  by_cases h : z < 0
  · refine ⟨[], fun W => (pad_neg z h W).mono ?_, fun W => (refPad_neg z h W).mono ?_⟩
    · rintro e w1 ⟨rfl, rfl⟩
      exact ⟨none, 0, rfl, (isArg_nil _).1, Below.refl _ _⟩
    · rintro e w1 ⟨rfl, rfl⟩
      exact ⟨none, 0, rfl, (isArg_nil _).1, Below.refl _ _⟩
  · obtain ⟨n, rfl⟩ := Int.eq_ofNat_of_zero_le (show 0 ≤ z by omega)
    refine ⟨padOf n, fun W => (pad_any n (by omega) W).mono ?_, fun W => (refPad_any n (by omega) W).mono ?_⟩
    · rintro e w1 ⟨v, rfl, ho, hb⟩
      have hi := isBytes_of_owns ho
      obtain ⟨a, c, rfl⟩ := hi.shape
      exact ⟨a, c, rfl, hi, hb⟩
    · rintro e w1 ⟨v, rfl, ho, hb⟩
      have hi := isBytes_of_owns ho
      obtain ⟨a, c, rfl⟩ := hi.shape
      exact ⟨a, c, rfl, hi, hb⟩
theorem shaTurns_out (w : World) (hL : Laid w) (h : List Nat) (v : Value) (l : List UInt8) (hv : IsArg w v l) (z : Int) (ho : 200 < l.length ∨ 2000 < z) :
    Calls Tryd.prog 3 #[.agg (u32s h).toArray, v, .int .i64 z] w fun e w' => e = .returned (.bool true) ∧ Below w.heap.size w w' := by
  obtain ⟨a, c, hsh⟩ := hv.1.shape
  have hle : l.length ≤ 9223372036854775807 := by
    rcases hv.1 with ⟨a, c, _, rfl⟩ | ⟨b, off, c, _, h1, h2, _⟩
    · decide
    · unfold maxLen at h2; omega
  obtain ⟨N, hN⟩ : ∃ N, N = l.length := ⟨_, rfl⟩
  rw [← hN] at hsh hle ho
  subst hsh
  obtain ⟨HV8, hHV⟩ : ∃ X, X = (u32s h).toArray := ⟨_, rfl⟩
  rw [← hHV]
  have hb0 : Below w.heap.size w (w.alloc (.cells HV8 23)) := (Below.refl _ _).alloc (Nat.le_refl _) _
  have HHD := Lib.hid (heads_any _ (hL.below hb0))
  have HB0 := Lib.hid hb0
  clear hL hHV hv hN hb0
  by_cases hlt : 200 < N
  · clear ho
    go_enter Tryd.func3, Tryd.ntmps3
    go_wp2_with (go_at_call 7; refine HHD.out.mono ?_; rintro e w' ⟨rfl, hb⟩)
    go_ret
    exact ⟨rfl, HB0.out.trans (hb.mono HB0.out.size)⟩
  · have h2 : 2000 < z := by omega
    clear ho
    go_enter Tryd.func3, Tryd.ntmps3
    go_wp2_with (go_at_call 7; refine HHD.out.mono ?_; rintro e w' ⟨rfl, hb⟩)
    go_ret
    exact ⟨rfl, HB0.out.trans (hb.mono HB0.out.size)⟩
structure TurnsX where
  b0 : Bool
  b1 : Bool
  b2 : Bool
  b3 : Bool
  b4 : Bool
  b5 : Bool
  b6 : Bool
  b7 : Bool
  b8 : Bool
  b9 : Bool
  b10 : Bool
  b11 : Bool
  b12 : Bool
  b13 : Bool
  b14 : Bool
  b15 : Bool
  b16 : Bool
  b17 : Bool
  b18 : Bool
  b19 : Bool
  b20 : Bool
  b21 : Bool
  b22 : Bool
  b23 : Bool
  b24 : Bool
  b25 : Bool
  b26 : Bool
  b27 : Bool
  b28 : Bool
  b29 : Bool
  b30 : Bool
  b31 : Bool
  b32 : Bool
  b33 : Bool
  s21 : Value
  s22 : Value
  s23 : Value
  s24 : Value
  s25 : Value
  s26 : Value
  s27 : Value
  s28 : Value
  s29 : Value
  s30 : Value
  s31 : Value
  s32 : Value
  s33 : Value
  s34 : Value
  s35 : Value
  s36 : Value
  s37 : Value
  s38 : Value
  s39 : Value
  s40 : Value
  s41 : Value
  s42 : Value
  s43 : Value
  s44 : Value
  s45 : Value
  s46 : Value
  s47 : Value
  s48 : Value
  s49 : Value
  s50 : Value
  s51 : Value
  s52 : Value
  s53 : Value
  s6 : Value
set_option maxHeartbeats 4000000 in
set_option maxRecDepth 100000 in
theorem shaTurns_in (w : World) (hL : Laid w) (h : List Nat) (h8 : h.length = 8) (h32 : All32 h) (v : Value) (l : List UInt8) (hv : IsArg w v l) (hl : l.length ≤ 200) (z : Int) (hz : z ≤ 2000) :
    Calls Tryd.prog 3 #[.agg (u32s h).toArray, v, .int .i64 z] w fun e w' => e = .returned (.bool true) ∧ Below w.heap.size w w' := by
  obtain ⟨i0, hi, hz0, hz1, hz2⟩ := info_parts info8
  obtain ⟨a, c, hsh⟩ := hv.1.shape
  obtain ⟨N, hN⟩ : ∃ N, N = l.length := ⟨_, rfl⟩
  rw [← hN] at hsh
  subst hsh
  have hlt : N ≤ 200 := by omega
  obtain ⟨ws, hws, hw1, hw2⟩ := words_both (.slice a N c) l
  obtain ⟨ta, hta, ht1, ht2⟩ := turn_both (.slice a N c) l h h8 h32
  obtain ⟨PD, hp1, hp2⟩ := pad_both z hz
  obtain ⟨HV8, hHV⟩ : ∃ X, X = (u32s h).toArray := ⟨_, rfl⟩
  obtain ⟨WD, hWD⟩ : ∃ X, X = (u32s ws).toArray := ⟨_, rfl⟩
  obtain ⟨TA, hTA⟩ : ∃ X, X = (u32s ta).toArray := ⟨_, rfl⟩
  rw [← hHV] at ht1 ht2
  rw [← hTA] at ht1 ht2
  rw [← hWD] at hw1 hw2
  rw [← hHV]
  obtain ⟨W1, hW1⟩ : ∃ W, W = w.alloc (.cells HV8 23) := ⟨_, rfl⟩
  obtain ⟨g, hg⟩ : ∃ g, g = w.heap.size := ⟨_, rfl⟩
  have hb1 : Below w.heap.size w W1 := by rw [hW1]; exact (Below.refl _ _).alloc (Nat.le_refl _) _
  have hg1 : W1.heap[g]? = some (.cells HV8 23 (0, 0)) := by rw [hW1, hg]; exact World.alloc_heap_new _ _
  have hv1 := hv.below hb1
  obtain ⟨L1, hL1⟩ : ∃ L, L = W1.heap.size := ⟨_, rfl⟩
  have hown0 : (W1.alloc (.cells #[] 5)).ownsRow W1.heap.size 5 1 (.slice (some ⟨W1.heap.size, 0, none⟩) 0 0) 0 [] := World.ownsRow_made W1 #[] 0 (Nat.le_refl _) (by decide) rfl
  have hb01 : Below W1.heap.size W1 (W1.alloc (.cells #[] 5)) := (Below.refl _ _).alloc (Nat.le_refl _) _
  have hv01 := hv1.below hb01
  rw [← hL1] at hown0 hb01
  have HW1 := Lib.hid hW1
  have HSZ := Lib.hid (show (some 8 : Option Nat) = some HV8.size by rw [hHV]; simp [h8])
  have HHV := Lib.hid hHV
  have H8 := Lib.hid (show h.length = 8 ∧ All32 h from ⟨h8, h32⟩)
  have HLL := Lib.hid hL
  have HWS := Lib.hid (show ∀ W, Below W1.heap.size W1 W → IsArg W (.slice a N c) l from fun W hb => hv1.below hb)
  have HLW := Lib.hid (show ∀ W, Below W1.heap.size W1 W → Laid W from fun W hb => hL.below (hb1.trans (hb.mono hb1.size)))
  have HB1 := Lib.hid hb1
  have HG := Lib.hid hg
  have HG1 := Lib.hid hg1
  have HNN := Lib.hid hN
  have HLb := Lib.hid hL1
  have HV01 := Lib.hid hv01.2
  have HP1 := Lib.hid hp1
  have HP2 := Lib.hid hp2
  have HC1 := Lib.hid hw1
  have HC2 := Lib.hid hw2
  have HT1 := Lib.hid ht1
  have HT2 := Lib.hid ht2
  have HEW := Lib.hid (show ∀ W : World, (Op.equalIn 10000 26 (.agg WD) (.agg WD)).run Tryd.prog W = .ok true W from fun W => by
    rw [hWD]; exact (equalIn_u32s W 26 22 64 ws ws hws hws und64x32 Tryd.underlying22 (by kernel_rfl)).trans (by rw [decide_eq_true rfl]))
  have HEA := Lib.hid (show ∀ W : World, (Op.equalIn 10000 23 (.agg TA) (.agg TA)).run Tryd.prog W = .ok true W from fun W => by
    rw [hTA]; exact (equalIn_u32s W 23 22 8 ta ta hta hta und8x32 Tryd.underlying22 (by kernel_rfl)).trans (by rw [decide_eq_true rfl]))
  clear hL hv hv1 hv01 hb1 hg1 hW1 hg hHV hWD hTA hN hL1 hl hp1 hp2 hw1 hw2 ht1 ht2 h8 h32 hws hta
  go_enter Tryd.func3, Tryd.ntmps3
  go_upto_region 3 with fail
  rw [← HW1.out, ← HG.out]
  go_wp2_with (at_builtin; refine wpList_append_isArg _ rfl (.tmp 16) (.tmp 17) 24 rfl L1 5 i0 (.int .u8 0) Tryd.underlying24 hi hz0 hz1 hz2 rfl _ _ _ rfl (by rw [HLb.out]; rw [← HLb.out]; exact hown0) _ l rfl ?c1 ?c2 ?c3 ?_)
  case c1 => exact HV01.out
  case c2 => have := HNN.out; omega
  case c3 => have := HLb.out; simp; omega
  intro v2 w2 hown2 hgrow2
  have hB2 : Below L1 W1 w2 := hb01.grown hgrow2 (by have := HLb.out; simp; omega) (fun k hk => (hown0.lt k (by rw [HLb.out]; exact hk)).1)
  have hs2 := hB2.size
  have HB2 := Lib.hid hB2
  obtain ⟨v3, w3, hrun, hown3, hgrow3⟩ := append_own_zeros (P := Tryd.prog) w2 L1 24 3 24 5 i0 .i64 Tryd.underlying24 Tryd.underlying3 hi hz0 hz1 hz2 v2 _ _ hown2 64 (by decide) (by have := HNN.out; omega) (by have := HLb.out; omega)
  have hB3 := HB2.out.grown hgrow3 (by have := HLb.out; omega) (fun k hk => (hown2.lt k hk).1)
  obtain ⟨S, hS⟩ : ∃ S, S = l ++ List.replicate 64 (0 : UInt8) := ⟨_, rfl⟩
  have hSb : Lib.byteCells l ++ zeros 64 = Lib.byteCells S := by rw [hS, Lib.byteCells_append]; simp [Lib.byteCells, zeros]
  rw [hSb, ← HNN.out] at hown3
  have hSl : S.length = N + 64 := by rw [hS, HNN.out]; simp
  obtain ⟨gb, cap, cur, rfl, hgb, hgh, hncap, hcapm, htk⟩ : ∃ gb cap cur, v3 = .slice (some ⟨gb, 0, none⟩) (N + 64) cap ∧ L1 ≤ gb ∧ w3.heap[gb]? = some (.cells cur 5 (0, 0)) ∧ N + 64 ≤ cap ∧ cap ≤ maxLen ∧ cur.toList.take (N + 64) = Lib.byteCells S := by
    rcases hown3.2 with ⟨_, h0⟩ | ⟨gb, cap, cur, hv2, hbg, hh, hn, hmx, _, htk⟩
    · omega
    · exact ⟨gb, cap, cur, hv2, hbg, hh, hn, hmx, by simpa using htk⟩
  obtain ⟨W0, hW0⟩ : ∃ W, W = w3 := ⟨_, rfl⟩
  have hb13 : Below W1.heap.size W1 W0 := by rw [hW0, ← HLb.out]; exact hB3
  have hpc : IsBytes W0 (.slice (some ⟨gb, 0, none⟩) 64 cap) ((S.drop 0).take 64) := by rw [hW0]; exact piece_bytes2 hgh htk hSl 0 64 cap (by omega) (by omega) hcapm
  have hpl : ((S.drop 0).take 64).length = 64 := by simp; omega
  obtain ⟨SB, hSB⟩ : ∃ X, X = (S.drop 0).take 64 := ⟨_, rfl⟩
  rw [← hSB] at hpc hpl
  obtain ⟨tb, htb, hq1, hq2⟩ := turn_both (.slice (some ⟨gb, 0, none⟩) 64 cap) SB h H8.out.1 H8.out.2
  obtain ⟨TB, hTB⟩ : ∃ X, X = (u32s tb).toArray := ⟨_, rfl⟩
  rw [← HHV.out, ← hTB] at hq1 hq2
  have HRUN := Lib.hid hrun
  have hup : ∀ W, Below W0.heap.size W0 W → Below W1.heap.size W1 W := fun W hb => hb13.trans (hb.mono hb13.size)
  have HHD := Lib.hid (show ∀ W, Below W0.heap.size W0 W → Calls Tryd.prog 7 #[] W fun e w' => e = .returned (.bool true) ∧ Below W.heap.size W w' from fun W hb => heads_any W (HLW.out W (hup W hb)))
  have HDG := Lib.hid (show ∀ W, Below W0.heap.size W0 W → W.heap[g]? = some (.cells HV8 23 (0, 0)) from fun W hb => ((hup W hb).block _ (Array.getElem?_eq_some_iff.1 HG1.out).1).trans HG1.out)
  have HWD := Lib.hid (show ∀ W, Below W0.heap.size W0 W → Calls Tryd.prog 8 #[.slice a N c] W fun e w' => e = .returned (.agg WD) ∧ Below W.heap.size W w' from fun W hb => HC1.out W (HWS.out W (hup W hb)))
  have HRW := Lib.hid (show ∀ W, Below W0.heap.size W0 W → Calls Tryd.prog 9 #[.slice a N c] W fun e w' => e = .returned (.agg WD) ∧ Below W.heap.size W w' from fun W hb => HC2.out W (HWS.out W (hup W hb)))
  have HTA := Lib.hid (show ∀ W, Below W0.heap.size W0 W → Calls Tryd.prog 10 #[.agg HV8, .slice a N c] W fun e w' => e = .returned (.agg TA) ∧ Below W.heap.size W w' from fun W hb => HT1.out W (HWS.out W (hup W hb)).1 (HLW.out W (hup W hb)))
  have HRA := Lib.hid (show ∀ W, Below W0.heap.size W0 W → Calls Tryd.prog 11 #[.agg HV8, .slice a N c] W fun e w' => e = .returned (.agg TA) ∧ Below W.heap.size W w' from fun W hb => HT2.out W (HWS.out W (hup W hb)).1)
  have HTB := Lib.hid (show ∀ W, Below W0.heap.size W0 W → Calls Tryd.prog 10 #[.agg HV8, .slice (some ⟨gb, 0, none⟩) 64 cap] W fun e w' => e = .returned (.agg TB) ∧ Below W.heap.size W w' from fun W hb => hq1 W (hpc.below hb) (HLW.out W (hup W hb)))
  have HRB := Lib.hid (show ∀ W, Below W0.heap.size W0 W → Calls Tryd.prog 11 #[.agg HV8, .slice (some ⟨gb, 0, none⟩) 64 cap] W fun e w' => e = .returned (.agg TB) ∧ Below W.heap.size W w' from fun W hb => hq2 W (hpc.below hb))
  have HPD := Lib.hid (show ∀ W, Below W0.heap.size W0 W → Calls Tryd.prog 13 #[.int .i64 z] W fun e w' => ∃ a9 c9, e = .returned (.slice a9 PD.length c9) ∧ IsBytes w' (.slice a9 PD.length c9) PD ∧ Below W.heap.size W w' from fun W hb => HP1.out W)
  have HRP := Lib.hid (show ∀ W, Below W0.heap.size W0 W → Calls Tryd.prog 14 #[.int .i64 z] W fun e w' => ∃ a9 c9, e = .returned (.slice a9 PD.length c9) ∧ IsBytes w' (.slice a9 PD.length c9) PD ∧ Below W.heap.size W w' from fun W hb => HP2.out W)
  have HEB := Lib.hid (show ∀ W : World, (Op.equalIn 10000 23 (.agg TB) (.agg TB)).run Tryd.prog W = .ok true W from fun W => by
    rw [hTB]; exact (equalIn_u32s W 23 22 8 tb tb htb htb und8x32 Tryd.underlying22 (by kernel_rfl)).trans (by rw [decide_eq_true rfl]))
  have HBF := Lib.hid (HB1.out.trans (hb13.mono HB1.out.size))
  have HW0 := Lib.hid hW0
  clear hown0 hb01 hgrow2 hB2 hs2 hown2 hrun hown3 hgrow3 hB3 hS hSb hSl hgh htk hW0 hb13 hpc hpl hSB hq1 hq2 hTB htb hup hgb
  have hsl := slice_to (some ⟨gb, 0, none⟩) (N + 64) cap 64 (by omega)
  go_wp2_with (at_builtin; refine Lib.wpList_append_run _ rfl _ _ _ _ rfl _ _ rfl rfl _ _ HRUN.out ?_)
  clear hsl
  rw [← HW0.out]
  refine wp_region_rec (X := TurnsX) (by kernel_rfl) (by kernel_rfl) (fun x => #[x.b0, x.b1, x.b2, x.b3, x.b4, x.b5, x.b6, x.b7, x.b8, x.b9, x.b10, x.b11, x.b12, x.b13, x.b14, x.b15, x.b16, x.b17, x.b18, x.b19, x.b20, x.b21, x.b22, x.b23, x.b24, x.b25, x.b26, x.b27, x.b28, x.b29, x.b30, x.b31, x.b32, x.b33]) (fun x => { tmps := List.toArray ((.agg HV8) :: (.slice a N c) :: (.int .i64 z) :: (.pointer (some ⟨g, 0, none⟩)) :: undef :: undef :: x.s6 :: (.slice (some ⟨gb, 0, none⟩) 64 cap) :: (.slice a N c) :: (.int .i64 N) :: (.bool (decide ((200 : Int) < (N : Int)))) :: (.bool (decide ((200 : Int) < (N : Int)))) :: (.int .i64 z) :: (.bool (decide ((2000 : Int) < z))) :: (.bool (decide ((200 : Int) < (N : Int)) || decide ((2000 : Int) < z))) :: undef :: (.slice (some ⟨W1.heap.size, 0, none⟩) 0 0) :: (.slice a N c) :: v2 :: (.slice (some ⟨gb, 0, none⟩) (N + 64) cap) :: (.slice (some ⟨gb, 0, none⟩) 64 cap) :: x.s21 :: x.s22 :: x.s23 :: x.s24 :: x.s25 :: x.s26 :: x.s27 :: x.s28 :: x.s29 :: x.s30 :: x.s31 :: x.s32 :: x.s33 :: x.s34 :: x.s35 :: x.s36 :: x.s37 :: x.s38 :: x.s39 :: x.s40 :: x.s41 :: x.s42 :: x.s43 :: x.s44 :: x.s45 :: x.s46 :: x.s47 :: x.s48 :: x.s49 :: x.s50 :: x.s51 :: x.s52 :: x.s53 :: []), defers := [] }) (fun x W => (x.b0 = true → x.s21 = .slice a N c) ∧ (x.b1 = true → x.s22 = .agg WD) ∧ (x.b2 = true → x.s23 = .slice a N c) ∧ (x.b3 = true → x.s24 = .agg WD) ∧ (x.b4 = true → x.s25 = .bool true) ∧ (x.b5 = true → x.s26 = .bool true) ∧ (x.b6 = true → x.s27 = .agg HV8) ∧ (x.b7 = true → x.s28 = .slice a N c) ∧ (x.b8 = true → x.s29 = .agg TA) ∧ (x.b9 = true → x.s30 = .agg HV8) ∧ (x.b10 = true → x.s31 = .slice a N c) ∧ (x.b11 = true → x.s32 = .agg TA) ∧ (x.b12 = true → x.s33 = .bool true) ∧ (x.b13 = true → x.s34 = .bool true) ∧ (x.b14 = true → x.s35 = .bool true) ∧ (x.b15 = true → x.s36 = .agg HV8) ∧ (x.b16 = true → x.s37 = .slice (some ⟨gb, 0, none⟩) 64 cap) ∧ (x.b17 = true → x.s38 = .agg TB) ∧ (x.b18 = true → x.s39 = .agg HV8) ∧ (x.b19 = true → x.s40 = .slice (some ⟨gb, 0, none⟩) 64 cap) ∧ (x.b20 = true → x.s41 = .agg TB) ∧ (x.b21 = true → x.s42 = .bool true) ∧ (x.b22 = true → x.s43 = .bool true) ∧ (x.b23 = true → x.s44 = .bool true) ∧ (x.b24 = true → x.s45 = .int .i64 z) ∧ (x.b26 = true → x.s47 = .int .i64 z) ∧ (x.b28 = true → x.s49 = .bool true) ∧ (x.b29 = true → x.s50 = .bool true) ∧ (x.b30 = true → x.s51 = .bool true) ∧ (x.b31 = true → x.s52 = .bool true) ∧ (x.b32 = true → x.s53 = .bool true) ∧ (x.b33 = true → x.s6 = .bool true) ∧ (x.b25 = true → IsBytes W x.s46 PD) ∧ (x.b27 = true → IsBytes W x.s48 PD) ∧ (Below W0.heap.size W0 W)) ⟨false, false, false, false, false, false, false, false, false, false, false, false, false, false, false, false, false, false, false, false, false, false, false, false, false, false, false, false, false, false, false, false, false, false, undef, undef, undef, undef, undef, undef, undef, undef, undef, undef, undef, undef, undef, undef, undef, undef, undef, undef, undef, undef, undef, undef, undef, undef, undef, undef, undef, undef, undef, undef, undef, undef, undef, .bool false⟩ rfl rfl ⟨(fun h => by cases h), (fun h => by cases h), (fun h => by cases h), (fun h => by cases h), (fun h => by cases h), (fun h => by cases h), (fun h => by cases h), (fun h => by cases h), (fun h => by cases h), (fun h => by cases h), (fun h => by cases h), (fun h => by cases h), (fun h => by cases h), (fun h => by cases h), (fun h => by cases h), (fun h => by cases h), (fun h => by cases h), (fun h => by cases h), (fun h => by cases h), (fun h => by cases h), (fun h => by cases h), (fun h => by cases h), (fun h => by cases h), (fun h => by cases h), (fun h => by cases h), (fun h => by cases h), (fun h => by cases h), (fun h => by cases h), (fun h => by cases h), (fun h => by cases h), (fun h => by cases h), (fun h => by cases h), (fun h => by cases h), (fun h => by cases h), (Below.refl _ _).drew⟩ (fun _ => rfl) ?hstep ?hdone
  case hstep =>
    rintro ⟨b0, b1, b2, b3, b4, b5, b6, b7, b8, b9, b10, b11, b12, b13, b14, b15, b16, b17, b18, b19, b20, b21, b22, b23, b24, b25, b26, b27, b28, b29, b30, b31, b32, b33, s21, s22, s23, s24, s25, s26, s27, s28, s29, s30, s31, s32, s33, s34, s35, s36, s37, s38, s39, s40, s41, s42, s43, s44, s45, s46, s47, s48, s49, s50, s51, s52, s53, s6⟩ W hI i hi
    dsimp only at hI hi ⊢
    have HI := Lib.hid hI
    clear hI
    rw [Region.ready, List.mem_filter, List.mem_range] at hi
    obtain ⟨hlt, hp⟩ := hi
    have hi7 : i = 0 ∨ i = 1 ∨ i = 2 ∨ i = 3 ∨ i = 4 ∨ i = 5 ∨ i = 6 ∨ i = 7 ∨ i = 8 ∨ i = 9 ∨ i = 10 ∨ i = 11 ∨ i = 12 ∨ i = 13 ∨ i = 14 ∨ i = 15 ∨ i = 16 ∨ i = 17 ∨ i = 18 ∨ i = 19 ∨ i = 20 ∨ i = 21 ∨ i = 22 ∨ i = 23 ∨ i = 24 ∨ i = 25 ∨ i = 26 ∨ i = 27 ∨ i = 28 ∨ i = 29 ∨ i = 30 ∨ i = 31 ∨ i = 32 ∨ i = 33 := by simp at hlt; omega
    clear hlt
    rcases hi7 with rfl | rfl | rfl | rfl | rfl | rfl | rfl | rfl | rfl | rfl | rfl | rfl | rfl | rfl | rfl | rfl | rfl | rfl | rfl | rfl | rfl | rfl | rfl | rfl | rfl | rfl | rfl | rfl | rfl | rfl | rfl | rfl | rfl | rfl
    all_goals simp [Region.binds] at hp
    · have hn0 : b0 = false := by revert hp; cases b0 <;> simp
      clear hp
      subst hn0
      refine inv_op (o := ⟨some 21, _, _, _, _, _⟩) rfl (fun K' hK' => ?_)
      go_simp
      obtain ⟨h0, h1, h2, h3, h4, h5, h6, h7, h8, h9, h10, h11, h12, h13, h14, h15, h16, h17, h18, h19, h20, h21, h22, h23, h24, h26, h28, h29, h30, h31, h32, h33, gP1, gP2, gW⟩ := HI.out
      exact hK'.out _ _ ⟨⟨true, b1, b2, b3, b4, b5, b6, b7, b8, b9, b10, b11, b12, b13, b14, b15, b16, b17, b18, b19, b20, b21, b22, b23, b24, b25, b26, b27, b28, b29, b30, b31, b32, b33, _, s22, s23, s24, s25, s26, s27, s28, s29, s30, s31, s32, s33, s34, s35, s36, s37, s38, s39, s40, s41, s42, s43, s44, s45, s46, s47, s48, s49, s50, s51, s52, s53, s6⟩, rfl, rfl, (fun _ => rfl), h1, h2, h3, h4, h5, h6, h7, h8, h9, h10, h11, h12, h13, h14, h15, h16, h17, h18, h19, h20, h21, h22, h23, h24, h26, h28, h29, h30, h31, h32, h33, gP1, gP2, gW⟩
    · have hn1 : b1 = false := by revert hp; cases b1 <;> simp
      have e0 : b0 = true := by revert hp; cases b0 <;> simp
      clear hp
      obtain rfl := (HI.out.1) e0
      subst hn1
      refine inv_op (o := ⟨some 22, _, _, _, _, _⟩) rfl (fun K' hK' => ?_)
      have gW := HI.out.2.2.2.2.2.2.2.2.2.2.2.2.2.2.2.2.2.2.2.2.2.2.2.2.2.2.2.2.2.2.2.2.2.2
      go_simp
      refine (HWD.out W gW).mono ?_
      rintro e w1 ⟨rfl, bn⟩
      obtain ⟨h0, h1, h2, h3, h4, h5, h6, h7, h8, h9, h10, h11, h12, h13, h14, h15, h16, h17, h18, h19, h20, h21, h22, h23, h24, h26, h28, h29, h30, h31, h32, h33, gP1, gP2, gW⟩ := HI.out
      exact hK'.out _ _ ⟨⟨b0, true, b2, b3, b4, b5, b6, b7, b8, b9, b10, b11, b12, b13, b14, b15, b16, b17, b18, b19, b20, b21, b22, b23, b24, b25, b26, b27, b28, b29, b30, b31, b32, b33, _, _, s23, s24, s25, s26, s27, s28, s29, s30, s31, s32, s33, s34, s35, s36, s37, s38, s39, s40, s41, s42, s43, s44, s45, s46, s47, s48, s49, s50, s51, s52, s53, s6⟩, rfl, rfl, h0, (fun _ => rfl), h2, h3, h4, h5, h6, h7, h8, h9, h10, h11, h12, h13, h14, h15, h16, h17, h18, h19, h20, h21, h22, h23, h24, h26, h28, h29, h30, h31, h32, h33, (fun h => (gP1 h).below bn), (fun h => (gP2 h).below bn), (gW.trans (bn.mono gW.size))⟩
    · have hn2 : b2 = false := by revert hp; cases b2 <;> simp
      clear hp
      subst hn2
      refine inv_op (o := ⟨some 23, _, _, _, _, _⟩) rfl (fun K' hK' => ?_)
      go_simp
      obtain ⟨h0, h1, h2, h3, h4, h5, h6, h7, h8, h9, h10, h11, h12, h13, h14, h15, h16, h17, h18, h19, h20, h21, h22, h23, h24, h26, h28, h29, h30, h31, h32, h33, gP1, gP2, gW⟩ := HI.out
      exact hK'.out _ _ ⟨⟨b0, b1, true, b3, b4, b5, b6, b7, b8, b9, b10, b11, b12, b13, b14, b15, b16, b17, b18, b19, b20, b21, b22, b23, b24, b25, b26, b27, b28, b29, b30, b31, b32, b33, s21, s22, _, s24, s25, s26, s27, s28, s29, s30, s31, s32, s33, s34, s35, s36, s37, s38, s39, s40, s41, s42, s43, s44, s45, s46, s47, s48, s49, s50, s51, s52, s53, s6⟩, rfl, rfl, h0, h1, (fun _ => rfl), h3, h4, h5, h6, h7, h8, h9, h10, h11, h12, h13, h14, h15, h16, h17, h18, h19, h20, h21, h22, h23, h24, h26, h28, h29, h30, h31, h32, h33, gP1, gP2, gW⟩
    · have hn3 : b3 = false := by revert hp; cases b3 <;> simp
      have e2 : b2 = true := by revert hp; cases b2 <;> simp
      clear hp
      obtain rfl := (HI.out.2.2.1) e2
      subst hn3
      refine inv_op (o := ⟨some 24, _, _, _, _, _⟩) rfl (fun K' hK' => ?_)
      have gW := HI.out.2.2.2.2.2.2.2.2.2.2.2.2.2.2.2.2.2.2.2.2.2.2.2.2.2.2.2.2.2.2.2.2.2.2
      go_simp
      refine (HRW.out W gW).mono ?_
      rintro e w1 ⟨rfl, bn⟩
      obtain ⟨h0, h1, h2, h3, h4, h5, h6, h7, h8, h9, h10, h11, h12, h13, h14, h15, h16, h17, h18, h19, h20, h21, h22, h23, h24, h26, h28, h29, h30, h31, h32, h33, gP1, gP2, gW⟩ := HI.out
      exact hK'.out _ _ ⟨⟨b0, b1, b2, true, b4, b5, b6, b7, b8, b9, b10, b11, b12, b13, b14, b15, b16, b17, b18, b19, b20, b21, b22, b23, b24, b25, b26, b27, b28, b29, b30, b31, b32, b33, s21, s22, _, _, s25, s26, s27, s28, s29, s30, s31, s32, s33, s34, s35, s36, s37, s38, s39, s40, s41, s42, s43, s44, s45, s46, s47, s48, s49, s50, s51, s52, s53, s6⟩, rfl, rfl, h0, h1, h2, (fun _ => rfl), h4, h5, h6, h7, h8, h9, h10, h11, h12, h13, h14, h15, h16, h17, h18, h19, h20, h21, h22, h23, h24, h26, h28, h29, h30, h31, h32, h33, (fun h => (gP1 h).below bn), (fun h => (gP2 h).below bn), (gW.trans (bn.mono gW.size))⟩
    · have hn4 : b4 = false := by revert hp; cases b4 <;> simp
      have e1 : b1 = true := by revert hp; cases b1 <;> simp
      have e3 : b3 = true := by revert hp; cases b3 <;> simp
      clear hp
      obtain rfl := (HI.out.2.1) e1
      obtain rfl := (HI.out.2.2.2.1) e3
      subst hn4
      refine inv_op (o := ⟨some 25, _, _, _, _, _⟩) rfl (fun K' hK' => ?_)
      have hq := HEW.out W
      go_simp
      obtain ⟨h0, h1, h2, h3, h4, h5, h6, h7, h8, h9, h10, h11, h12, h13, h14, h15, h16, h17, h18, h19, h20, h21, h22, h23, h24, h26, h28, h29, h30, h31, h32, h33, gP1, gP2, gW⟩ := HI.out
      exact hK'.out _ _ ⟨⟨b0, b1, b2, b3, true, b5, b6, b7, b8, b9, b10, b11, b12, b13, b14, b15, b16, b17, b18, b19, b20, b21, b22, b23, b24, b25, b26, b27, b28, b29, b30, b31, b32, b33, s21, _, s23, _, _, s26, s27, s28, s29, s30, s31, s32, s33, s34, s35, s36, s37, s38, s39, s40, s41, s42, s43, s44, s45, s46, s47, s48, s49, s50, s51, s52, s53, s6⟩, rfl, rfl, h0, h1, h2, h3, (fun _ => rfl), h5, h6, h7, h8, h9, h10, h11, h12, h13, h14, h15, h16, h17, h18, h19, h20, h21, h22, h23, h24, h26, h28, h29, h30, h31, h32, h33, gP1, gP2, gW⟩
    · have hn5 : b5 = false := by revert hp; cases b5 <;> simp
      have e4 : b4 = true := by revert hp; cases b4 <;> simp
      clear hp
      obtain rfl := (HI.out.2.2.2.2.1) e4
      subst hn5
      refine inv_op (o := ⟨some 26, _, _, _, _, _⟩) rfl (fun K' hK' => ?_)
      go_simp
      obtain ⟨h0, h1, h2, h3, h4, h5, h6, h7, h8, h9, h10, h11, h12, h13, h14, h15, h16, h17, h18, h19, h20, h21, h22, h23, h24, h26, h28, h29, h30, h31, h32, h33, gP1, gP2, gW⟩ := HI.out
      exact hK'.out _ _ ⟨⟨b0, b1, b2, b3, b4, true, b6, b7, b8, b9, b10, b11, b12, b13, b14, b15, b16, b17, b18, b19, b20, b21, b22, b23, b24, b25, b26, b27, b28, b29, b30, b31, b32, b33, s21, s22, s23, s24, _, _, s27, s28, s29, s30, s31, s32, s33, s34, s35, s36, s37, s38, s39, s40, s41, s42, s43, s44, s45, s46, s47, s48, s49, s50, s51, s52, s53, s6⟩, rfl, rfl, h0, h1, h2, h3, h4, (fun _ => rfl), h6, h7, h8, h9, h10, h11, h12, h13, h14, h15, h16, h17, h18, h19, h20, h21, h22, h23, h24, h26, h28, h29, h30, h31, h32, h33, gP1, gP2, gW⟩
    · have hn6 : b6 = false := by revert hp; cases b6 <;> simp
      have e5 : b5 = true := by revert hp; cases b5 <;> simp
      clear hp
      obtain rfl := (HI.out.2.2.2.2.2.1) e5
      subst hn6
      refine inv_op (o := ⟨some 27, _, _, _, _, _⟩) rfl (fun K' hK' => ?_)
      have gW := HI.out.2.2.2.2.2.2.2.2.2.2.2.2.2.2.2.2.2.2.2.2.2.2.2.2.2.2.2.2.2.2.2.2.2.2
      rw [if_pos (by kernel_rfl)]
      refine wp_load_row 23 _ rfl g rfl 23 HV8 (0, 0) _ (HDG.out W gW) und8x32 rfl (info8x32.trans HSZ.out) ?_
      obtain ⟨h0, h1, h2, h3, h4, h5, h6, h7, h8, h9, h10, h11, h12, h13, h14, h15, h16, h17, h18, h19, h20, h21, h22, h23, h24, h26, h28, h29, h30, h31, h32, h33, gP1, gP2, gW⟩ := HI.out
      exact hK'.out _ _ ⟨⟨b0, b1, b2, b3, b4, b5, true, b7, b8, b9, b10, b11, b12, b13, b14, b15, b16, b17, b18, b19, b20, b21, b22, b23, b24, b25, b26, b27, b28, b29, b30, b31, b32, b33, s21, s22, s23, s24, s25, _, _, s28, s29, s30, s31, s32, s33, s34, s35, s36, s37, s38, s39, s40, s41, s42, s43, s44, s45, s46, s47, s48, s49, s50, s51, s52, s53, s6⟩, rfl, rfl, h0, h1, h2, h3, h4, h5, (fun _ => rfl), h7, h8, h9, h10, h11, h12, h13, h14, h15, h16, h17, h18, h19, h20, h21, h22, h23, h24, h26, h28, h29, h30, h31, h32, h33, gP1, gP2, gW⟩
    · have hn7 : b7 = false := by revert hp; cases b7 <;> simp
      have e5 : b5 = true := by revert hp; cases b5 <;> simp
      clear hp
      obtain rfl := (HI.out.2.2.2.2.2.1) e5
      subst hn7
      refine inv_op (o := ⟨some 28, _, _, _, _, _⟩) rfl (fun K' hK' => ?_)
      go_simp
      obtain ⟨h0, h1, h2, h3, h4, h5, h6, h7, h8, h9, h10, h11, h12, h13, h14, h15, h16, h17, h18, h19, h20, h21, h22, h23, h24, h26, h28, h29, h30, h31, h32, h33, gP1, gP2, gW⟩ := HI.out
      exact hK'.out _ _ ⟨⟨b0, b1, b2, b3, b4, b5, b6, true, b8, b9, b10, b11, b12, b13, b14, b15, b16, b17, b18, b19, b20, b21, b22, b23, b24, b25, b26, b27, b28, b29, b30, b31, b32, b33, s21, s22, s23, s24, s25, _, s27, _, s29, s30, s31, s32, s33, s34, s35, s36, s37, s38, s39, s40, s41, s42, s43, s44, s45, s46, s47, s48, s49, s50, s51, s52, s53, s6⟩, rfl, rfl, h0, h1, h2, h3, h4, h5, h6, (fun _ => rfl), h8, h9, h10, h11, h12, h13, h14, h15, h16, h17, h18, h19, h20, h21, h22, h23, h24, h26, h28, h29, h30, h31, h32, h33, gP1, gP2, gW⟩
    · have hn8 : b8 = false := by revert hp; cases b8 <;> simp
      have e5 : b5 = true := by revert hp; cases b5 <;> simp
      have e6 : b6 = true := by revert hp; cases b6 <;> simp
      have e7 : b7 = true := by revert hp; cases b7 <;> simp
      clear hp
      obtain rfl := (HI.out.2.2.2.2.2.1) e5
      obtain rfl := (HI.out.2.2.2.2.2.2.1) e6
      obtain rfl := (HI.out.2.2.2.2.2.2.2.1) e7
      subst hn8
      refine inv_op (o := ⟨some 29, _, _, _, _, _⟩) rfl (fun K' hK' => ?_)
      have gW := HI.out.2.2.2.2.2.2.2.2.2.2.2.2.2.2.2.2.2.2.2.2.2.2.2.2.2.2.2.2.2.2.2.2.2.2
      go_simp
      refine (HTA.out W gW).mono ?_
      rintro e w1 ⟨rfl, bn⟩
      obtain ⟨h0, h1, h2, h3, h4, h5, h6, h7, h8, h9, h10, h11, h12, h13, h14, h15, h16, h17, h18, h19, h20, h21, h22, h23, h24, h26, h28, h29, h30, h31, h32, h33, gP1, gP2, gW⟩ := HI.out
      exact hK'.out _ _ ⟨⟨b0, b1, b2, b3, b4, b5, b6, b7, true, b9, b10, b11, b12, b13, b14, b15, b16, b17, b18, b19, b20, b21, b22, b23, b24, b25, b26, b27, b28, b29, b30, b31, b32, b33, s21, s22, s23, s24, s25, _, _, _, _, s30, s31, s32, s33, s34, s35, s36, s37, s38, s39, s40, s41, s42, s43, s44, s45, s46, s47, s48, s49, s50, s51, s52, s53, s6⟩, rfl, rfl, h0, h1, h2, h3, h4, h5, h6, h7, (fun _ => rfl), h9, h10, h11, h12, h13, h14, h15, h16, h17, h18, h19, h20, h21, h22, h23, h24, h26, h28, h29, h30, h31, h32, h33, (fun h => (gP1 h).below bn), (fun h => (gP2 h).below bn), (gW.trans (bn.mono gW.size))⟩
    · have hn9 : b9 = false := by revert hp; cases b9 <;> simp
      have e5 : b5 = true := by revert hp; cases b5 <;> simp
      clear hp
      obtain rfl := (HI.out.2.2.2.2.2.1) e5
      subst hn9
      refine inv_op (o := ⟨some 30, _, _, _, _, _⟩) rfl (fun K' hK' => ?_)
      have gW := HI.out.2.2.2.2.2.2.2.2.2.2.2.2.2.2.2.2.2.2.2.2.2.2.2.2.2.2.2.2.2.2.2.2.2.2
      rw [if_pos (by kernel_rfl)]
      refine wp_load_row 23 _ rfl g rfl 23 HV8 (0, 0) _ (HDG.out W gW) und8x32 rfl (info8x32.trans HSZ.out) ?_
      obtain ⟨h0, h1, h2, h3, h4, h5, h6, h7, h8, h9, h10, h11, h12, h13, h14, h15, h16, h17, h18, h19, h20, h21, h22, h23, h24, h26, h28, h29, h30, h31, h32, h33, gP1, gP2, gW⟩ := HI.out
      exact hK'.out _ _ ⟨⟨b0, b1, b2, b3, b4, b5, b6, b7, b8, true, b10, b11, b12, b13, b14, b15, b16, b17, b18, b19, b20, b21, b22, b23, b24, b25, b26, b27, b28, b29, b30, b31, b32, b33, s21, s22, s23, s24, s25, _, s27, s28, s29, _, s31, s32, s33, s34, s35, s36, s37, s38, s39, s40, s41, s42, s43, s44, s45, s46, s47, s48, s49, s50, s51, s52, s53, s6⟩, rfl, rfl, h0, h1, h2, h3, h4, h5, h6, h7, h8, (fun _ => rfl), h10, h11, h12, h13, h14, h15, h16, h17, h18, h19, h20, h21, h22, h23, h24, h26, h28, h29, h30, h31, h32, h33, gP1, gP2, gW⟩
    · have hn10 : b10 = false := by revert hp; cases b10 <;> simp
      have e5 : b5 = true := by revert hp; cases b5 <;> simp
      clear hp
      obtain rfl := (HI.out.2.2.2.2.2.1) e5
      subst hn10
      refine inv_op (o := ⟨some 31, _, _, _, _, _⟩) rfl (fun K' hK' => ?_)
      go_simp
      obtain ⟨h0, h1, h2, h3, h4, h5, h6, h7, h8, h9, h10, h11, h12, h13, h14, h15, h16, h17, h18, h19, h20, h21, h22, h23, h24, h26, h28, h29, h30, h31, h32, h33, gP1, gP2, gW⟩ := HI.out
      exact hK'.out _ _ ⟨⟨b0, b1, b2, b3, b4, b5, b6, b7, b8, b9, true, b11, b12, b13, b14, b15, b16, b17, b18, b19, b20, b21, b22, b23, b24, b25, b26, b27, b28, b29, b30, b31, b32, b33, s21, s22, s23, s24, s25, _, s27, s28, s29, s30, _, s32, s33, s34, s35, s36, s37, s38, s39, s40, s41, s42, s43, s44, s45, s46, s47, s48, s49, s50, s51, s52, s53, s6⟩, rfl, rfl, h0, h1, h2, h3, h4, h5, h6, h7, h8, h9, (fun _ => rfl), h11, h12, h13, h14, h15, h16, h17, h18, h19, h20, h21, h22, h23, h24, h26, h28, h29, h30, h31, h32, h33, gP1, gP2, gW⟩
    · have hn11 : b11 = false := by revert hp; cases b11 <;> simp
      have e5 : b5 = true := by revert hp; cases b5 <;> simp
      have e9 : b9 = true := by revert hp; cases b9 <;> simp
      have e10 : b10 = true := by revert hp; cases b10 <;> simp
      clear hp
      obtain rfl := (HI.out.2.2.2.2.2.1) e5
      obtain rfl := (HI.out.2.2.2.2.2.2.2.2.2.1) e9
      obtain rfl := (HI.out.2.2.2.2.2.2.2.2.2.2.1) e10
      subst hn11
      refine inv_op (o := ⟨some 32, _, _, _, _, _⟩) rfl (fun K' hK' => ?_)
      have gW := HI.out.2.2.2.2.2.2.2.2.2.2.2.2.2.2.2.2.2.2.2.2.2.2.2.2.2.2.2.2.2.2.2.2.2.2
      go_simp
      refine (HRA.out W gW).mono ?_
      rintro e w1 ⟨rfl, bn⟩
      obtain ⟨h0, h1, h2, h3, h4, h5, h6, h7, h8, h9, h10, h11, h12, h13, h14, h15, h16, h17, h18, h19, h20, h21, h22, h23, h24, h26, h28, h29, h30, h31, h32, h33, gP1, gP2, gW⟩ := HI.out
      exact hK'.out _ _ ⟨⟨b0, b1, b2, b3, b4, b5, b6, b7, b8, b9, b10, true, b12, b13, b14, b15, b16, b17, b18, b19, b20, b21, b22, b23, b24, b25, b26, b27, b28, b29, b30, b31, b32, b33, s21, s22, s23, s24, s25, _, s27, s28, s29, _, _, _, s33, s34, s35, s36, s37, s38, s39, s40, s41, s42, s43, s44, s45, s46, s47, s48, s49, s50, s51, s52, s53, s6⟩, rfl, rfl, h0, h1, h2, h3, h4, h5, h6, h7, h8, h9, h10, (fun _ => rfl), h12, h13, h14, h15, h16, h17, h18, h19, h20, h21, h22, h23, h24, h26, h28, h29, h30, h31, h32, h33, (fun h => (gP1 h).below bn), (fun h => (gP2 h).below bn), (gW.trans (bn.mono gW.size))⟩
    · have hn12 : b12 = false := by revert hp; cases b12 <;> simp
      have e5 : b5 = true := by revert hp; cases b5 <;> simp
      have e8 : b8 = true := by revert hp; cases b8 <;> simp
      have e11 : b11 = true := by revert hp; cases b11 <;> simp
      clear hp
      obtain rfl := (HI.out.2.2.2.2.2.1) e5
      obtain rfl := (HI.out.2.2.2.2.2.2.2.2.1) e8
      obtain rfl := (HI.out.2.2.2.2.2.2.2.2.2.2.2.1) e11
      subst hn12
      refine inv_op (o := ⟨some 33, _, _, _, _, _⟩) rfl (fun K' hK' => ?_)
      have hq := HEA.out W
      go_simp
      obtain ⟨h0, h1, h2, h3, h4, h5, h6, h7, h8, h9, h10, h11, h12, h13, h14, h15, h16, h17, h18, h19, h20, h21, h22, h23, h24, h26, h28, h29, h30, h31, h32, h33, gP1, gP2, gW⟩ := HI.out
      exact hK'.out _ _ ⟨⟨b0, b1, b2, b3, b4, b5, b6, b7, b8, b9, b10, b11, true, b13, b14, b15, b16, b17, b18, b19, b20, b21, b22, b23, b24, b25, b26, b27, b28, b29, b30, b31, b32, b33, s21, s22, s23, s24, s25, _, s27, s28, _, s30, s31, _, _, s34, s35, s36, s37, s38, s39, s40, s41, s42, s43, s44, s45, s46, s47, s48, s49, s50, s51, s52, s53, s6⟩, rfl, rfl, h0, h1, h2, h3, h4, h5, h6, h7, h8, h9, h10, h11, (fun _ => rfl), h13, h14, h15, h16, h17, h18, h19, h20, h21, h22, h23, h24, h26, h28, h29, h30, h31, h32, h33, gP1, gP2, gW⟩
    · have hn13 : b13 = false := by revert hp; cases b13 <;> simp
      have e5 : b5 = true := by revert hp; cases b5 <;> simp
      have e12 : b12 = true := by revert hp; cases b12 <;> simp
      clear hp
      obtain rfl := (HI.out.2.2.2.2.2.1) e5
      obtain rfl := (HI.out.2.2.2.2.2.2.2.2.2.2.2.2.1) e12
      subst hn13
      refine inv_op (o := ⟨some 34, _, _, _, _, _⟩) rfl (fun K' hK' => ?_)
      go_simp
      obtain ⟨h0, h1, h2, h3, h4, h5, h6, h7, h8, h9, h10, h11, h12, h13, h14, h15, h16, h17, h18, h19, h20, h21, h22, h23, h24, h26, h28, h29, h30, h31, h32, h33, gP1, gP2, gW⟩ := HI.out
      exact hK'.out _ _ ⟨⟨b0, b1, b2, b3, b4, b5, b6, b7, b8, b9, b10, b11, b12, true, b14, b15, b16, b17, b18, b19, b20, b21, b22, b23, b24, b25, b26, b27, b28, b29, b30, b31, b32, b33, s21, s22, s23, s24, s25, _, s27, s28, s29, s30, s31, s32, _, _, s35, s36, s37, s38, s39, s40, s41, s42, s43, s44, s45, s46, s47, s48, s49, s50, s51, s52, s53, s6⟩, rfl, rfl, h0, h1, h2, h3, h4, h5, h6, h7, h8, h9, h10, h11, h12, (fun _ => rfl), h14, h15, h16, h17, h18, h19, h20, h21, h22, h23, h24, h26, h28, h29, h30, h31, h32, h33, gP1, gP2, gW⟩
    · have hn14 : b14 = false := by revert hp; cases b14 <;> simp
      have e13 : b13 = true := by revert hp; cases b13 <;> simp
      clear hp
      obtain rfl := (HI.out.2.2.2.2.2.2.2.2.2.2.2.2.2.1) e13
      subst hn14
      refine inv_op (o := ⟨some 35, _, _, _, _, _⟩) rfl (fun K' hK' => ?_)
      go_simp
      obtain ⟨h0, h1, h2, h3, h4, h5, h6, h7, h8, h9, h10, h11, h12, h13, h14, h15, h16, h17, h18, h19, h20, h21, h22, h23, h24, h26, h28, h29, h30, h31, h32, h33, gP1, gP2, gW⟩ := HI.out
      exact hK'.out _ _ ⟨⟨b0, b1, b2, b3, b4, b5, b6, b7, b8, b9, b10, b11, b12, b13, true, b15, b16, b17, b18, b19, b20, b21, b22, b23, b24, b25, b26, b27, b28, b29, b30, b31, b32, b33, s21, s22, s23, s24, s25, s26, s27, s28, s29, s30, s31, s32, s33, _, _, s36, s37, s38, s39, s40, s41, s42, s43, s44, s45, s46, s47, s48, s49, s50, s51, s52, s53, s6⟩, rfl, rfl, h0, h1, h2, h3, h4, h5, h6, h7, h8, h9, h10, h11, h12, h13, (fun _ => rfl), h15, h16, h17, h18, h19, h20, h21, h22, h23, h24, h26, h28, h29, h30, h31, h32, h33, gP1, gP2, gW⟩
    · have hn15 : b15 = false := by revert hp; cases b15 <;> simp
      have e14 : b14 = true := by revert hp; cases b14 <;> simp
      clear hp
      obtain rfl := (HI.out.2.2.2.2.2.2.2.2.2.2.2.2.2.2.1) e14
      subst hn15
      refine inv_op (o := ⟨some 36, _, _, _, _, _⟩) rfl (fun K' hK' => ?_)
      have gW := HI.out.2.2.2.2.2.2.2.2.2.2.2.2.2.2.2.2.2.2.2.2.2.2.2.2.2.2.2.2.2.2.2.2.2.2
      rw [if_pos (by kernel_rfl)]
      refine wp_load_row 23 _ rfl g rfl 23 HV8 (0, 0) _ (HDG.out W gW) und8x32 rfl (info8x32.trans HSZ.out) ?_
      obtain ⟨h0, h1, h2, h3, h4, h5, h6, h7, h8, h9, h10, h11, h12, h13, h14, h15, h16, h17, h18, h19, h20, h21, h22, h23, h24, h26, h28, h29, h30, h31, h32, h33, gP1, gP2, gW⟩ := HI.out
      exact hK'.out _ _ ⟨⟨b0, b1, b2, b3, b4, b5, b6, b7, b8, b9, b10, b11, b12, b13, b14, true, b16, b17, b18, b19, b20, b21, b22, b23, b24, b25, b26, b27, b28, b29, b30, b31, b32, b33, s21, s22, s23, s24, s25, s26, s27, s28, s29, s30, s31, s32, s33, s34, _, _, s37, s38, s39, s40, s41, s42, s43, s44, s45, s46, s47, s48, s49, s50, s51, s52, s53, s6⟩, rfl, rfl, h0, h1, h2, h3, h4, h5, h6, h7, h8, h9, h10, h11, h12, h13, h14, (fun _ => rfl), h16, h17, h18, h19, h20, h21, h22, h23, h24, h26, h28, h29, h30, h31, h32, h33, gP1, gP2, gW⟩
    · have hn16 : b16 = false := by revert hp; cases b16 <;> simp
      have e14 : b14 = true := by revert hp; cases b14 <;> simp
      clear hp
      obtain rfl := (HI.out.2.2.2.2.2.2.2.2.2.2.2.2.2.2.1) e14
      subst hn16
      refine inv_op (o := ⟨some 37, _, _, _, _, _⟩) rfl (fun K' hK' => ?_)
      go_simp
      obtain ⟨h0, h1, h2, h3, h4, h5, h6, h7, h8, h9, h10, h11, h12, h13, h14, h15, h16, h17, h18, h19, h20, h21, h22, h23, h24, h26, h28, h29, h30, h31, h32, h33, gP1, gP2, gW⟩ := HI.out
      exact hK'.out _ _ ⟨⟨b0, b1, b2, b3, b4, b5, b6, b7, b8, b9, b10, b11, b12, b13, b14, b15, true, b17, b18, b19, b20, b21, b22, b23, b24, b25, b26, b27, b28, b29, b30, b31, b32, b33, s21, s22, s23, s24, s25, s26, s27, s28, s29, s30, s31, s32, s33, s34, _, s36, _, s38, s39, s40, s41, s42, s43, s44, s45, s46, s47, s48, s49, s50, s51, s52, s53, s6⟩, rfl, rfl, h0, h1, h2, h3, h4, h5, h6, h7, h8, h9, h10, h11, h12, h13, h14, h15, (fun _ => rfl), h17, h18, h19, h20, h21, h22, h23, h24, h26, h28, h29, h30, h31, h32, h33, gP1, gP2, gW⟩
    · have hn17 : b17 = false := by revert hp; cases b17 <;> simp
      have e14 : b14 = true := by revert hp; cases b14 <;> simp
      have e15 : b15 = true := by revert hp; cases b15 <;> simp
      have e16 : b16 = true := by revert hp; cases b16 <;> simp
      clear hp
      obtain rfl := (HI.out.2.2.2.2.2.2.2.2.2.2.2.2.2.2.1) e14
      obtain rfl := (HI.out.2.2.2.2.2.2.2.2.2.2.2.2.2.2.2.1) e15
      obtain rfl := (HI.out.2.2.2.2.2.2.2.2.2.2.2.2.2.2.2.2.1) e16
      subst hn17
      refine inv_op (o := ⟨some 38, _, _, _, _, _⟩) rfl (fun K' hK' => ?_)
      have gW := HI.out.2.2.2.2.2.2.2.2.2.2.2.2.2.2.2.2.2.2.2.2.2.2.2.2.2.2.2.2.2.2.2.2.2.2
      go_simp
      refine (HTB.out W gW).mono ?_
      rintro e w1 ⟨rfl, bn⟩
      obtain ⟨h0, h1, h2, h3, h4, h5, h6, h7, h8, h9, h10, h11, h12, h13, h14, h15, h16, h17, h18, h19, h20, h21, h22, h23, h24, h26, h28, h29, h30, h31, h32, h33, gP1, gP2, gW⟩ := HI.out
      exact hK'.out _ _ ⟨⟨b0, b1, b2, b3, b4, b5, b6, b7, b8, b9, b10, b11, b12, b13, b14, b15, b16, true, b18, b19, b20, b21, b22, b23, b24, b25, b26, b27, b28, b29, b30, b31, b32, b33, s21, s22, s23, s24, s25, s26, s27, s28, s29, s30, s31, s32, s33, s34, _, _, _, _, s39, s40, s41, s42, s43, s44, s45, s46, s47, s48, s49, s50, s51, s52, s53, s6⟩, rfl, rfl, h0, h1, h2, h3, h4, h5, h6, h7, h8, h9, h10, h11, h12, h13, h14, h15, h16, (fun _ => rfl), h18, h19, h20, h21, h22, h23, h24, h26, h28, h29, h30, h31, h32, h33, (fun h => (gP1 h).below bn), (fun h => (gP2 h).below bn), (gW.trans (bn.mono gW.size))⟩
    · have hn18 : b18 = false := by revert hp; cases b18 <;> simp
      have e14 : b14 = true := by revert hp; cases b14 <;> simp
      clear hp
      obtain rfl := (HI.out.2.2.2.2.2.2.2.2.2.2.2.2.2.2.1) e14
      subst hn18
      refine inv_op (o := ⟨some 39, _, _, _, _, _⟩) rfl (fun K' hK' => ?_)
      have gW := HI.out.2.2.2.2.2.2.2.2.2.2.2.2.2.2.2.2.2.2.2.2.2.2.2.2.2.2.2.2.2.2.2.2.2.2
      rw [if_pos (by kernel_rfl)]
      refine wp_load_row 23 _ rfl g rfl 23 HV8 (0, 0) _ (HDG.out W gW) und8x32 rfl (info8x32.trans HSZ.out) ?_
      obtain ⟨h0, h1, h2, h3, h4, h5, h6, h7, h8, h9, h10, h11, h12, h13, h14, h15, h16, h17, h18, h19, h20, h21, h22, h23, h24, h26, h28, h29, h30, h31, h32, h33, gP1, gP2, gW⟩ := HI.out
      exact hK'.out _ _ ⟨⟨b0, b1, b2, b3, b4, b5, b6, b7, b8, b9, b10, b11, b12, b13, b14, b15, b16, b17, true, b19, b20, b21, b22, b23, b24, b25, b26, b27, b28, b29, b30, b31, b32, b33, s21, s22, s23, s24, s25, s26, s27, s28, s29, s30, s31, s32, s33, s34, _, s36, s37, s38, _, s40, s41, s42, s43, s44, s45, s46, s47, s48, s49, s50, s51, s52, s53, s6⟩, rfl, rfl, h0, h1, h2, h3, h4, h5, h6, h7, h8, h9, h10, h11, h12, h13, h14, h15, h16, h17, (fun _ => rfl), h19, h20, h21, h22, h23, h24, h26, h28, h29, h30, h31, h32, h33, gP1, gP2, gW⟩
    · have hn19 : b19 = false := by revert hp; cases b19 <;> simp
      have e14 : b14 = true := by revert hp; cases b14 <;> simp
      clear hp
      obtain rfl := (HI.out.2.2.2.2.2.2.2.2.2.2.2.2.2.2.1) e14
      subst hn19
      refine inv_op (o := ⟨some 40, _, _, _, _, _⟩) rfl (fun K' hK' => ?_)
      go_simp
      obtain ⟨h0, h1, h2, h3, h4, h5, h6, h7, h8, h9, h10, h11, h12, h13, h14, h15, h16, h17, h18, h19, h20, h21, h22, h23, h24, h26, h28, h29, h30, h31, h32, h33, gP1, gP2, gW⟩ := HI.out
      exact hK'.out _ _ ⟨⟨b0, b1, b2, b3, b4, b5, b6, b7, b8, b9, b10, b11, b12, b13, b14, b15, b16, b17, b18, true, b20, b21, b22, b23, b24, b25, b26, b27, b28, b29, b30, b31, b32, b33, s21, s22, s23, s24, s25, s26, s27, s28, s29, s30, s31, s32, s33, s34, _, s36, s37, s38, s39, _, s41, s42, s43, s44, s45, s46, s47, s48, s49, s50, s51, s52, s53, s6⟩, rfl, rfl, h0, h1, h2, h3, h4, h5, h6, h7, h8, h9, h10, h11, h12, h13, h14, h15, h16, h17, h18, (fun _ => rfl), h20, h21, h22, h23, h24, h26, h28, h29, h30, h31, h32, h33, gP1, gP2, gW⟩
    · have hn20 : b20 = false := by revert hp; cases b20 <;> simp
      have e14 : b14 = true := by revert hp; cases b14 <;> simp
      have e18 : b18 = true := by revert hp; cases b18 <;> simp
      have e19 : b19 = true := by revert hp; cases b19 <;> simp
      clear hp
      obtain rfl := (HI.out.2.2.2.2.2.2.2.2.2.2.2.2.2.2.1) e14
      obtain rfl := (HI.out.2.2.2.2.2.2.2.2.2.2.2.2.2.2.2.2.2.2.1) e18
      obtain rfl := (HI.out.2.2.2.2.2.2.2.2.2.2.2.2.2.2.2.2.2.2.2.1) e19
      subst hn20
      refine inv_op (o := ⟨some 41, _, _, _, _, _⟩) rfl (fun K' hK' => ?_)
      have gW := HI.out.2.2.2.2.2.2.2.2.2.2.2.2.2.2.2.2.2.2.2.2.2.2.2.2.2.2.2.2.2.2.2.2.2.2
      go_simp
      refine (HRB.out W gW).mono ?_
      rintro e w1 ⟨rfl, bn⟩
      obtain ⟨h0, h1, h2, h3, h4, h5, h6, h7, h8, h9, h10, h11, h12, h13, h14, h15, h16, h17, h18, h19, h20, h21, h22, h23, h24, h26, h28, h29, h30, h31, h32, h33, gP1, gP2, gW⟩ := HI.out
      exact hK'.out _ _ ⟨⟨b0, b1, b2, b3, b4, b5, b6, b7, b8, b9, b10, b11, b12, b13, b14, b15, b16, b17, b18, b19, true, b21, b22, b23, b24, b25, b26, b27, b28, b29, b30, b31, b32, b33, s21, s22, s23, s24, s25, s26, s27, s28, s29, s30, s31, s32, s33, s34, _, s36, s37, s38, _, _, _, s42, s43, s44, s45, s46, s47, s48, s49, s50, s51, s52, s53, s6⟩, rfl, rfl, h0, h1, h2, h3, h4, h5, h6, h7, h8, h9, h10, h11, h12, h13, h14, h15, h16, h17, h18, h19, (fun _ => rfl), h21, h22, h23, h24, h26, h28, h29, h30, h31, h32, h33, (fun h => (gP1 h).below bn), (fun h => (gP2 h).below bn), (gW.trans (bn.mono gW.size))⟩
    · have hn21 : b21 = false := by revert hp; cases b21 <;> simp
      have e14 : b14 = true := by revert hp; cases b14 <;> simp
      have e17 : b17 = true := by revert hp; cases b17 <;> simp
      have e20 : b20 = true := by revert hp; cases b20 <;> simp
      clear hp
      obtain rfl := (HI.out.2.2.2.2.2.2.2.2.2.2.2.2.2.2.1) e14
      obtain rfl := (HI.out.2.2.2.2.2.2.2.2.2.2.2.2.2.2.2.2.2.1) e17
      obtain rfl := (HI.out.2.2.2.2.2.2.2.2.2.2.2.2.2.2.2.2.2.2.2.2.1) e20
      subst hn21
      refine inv_op (o := ⟨some 42, _, _, _, _, _⟩) rfl (fun K' hK' => ?_)
      have hq := HEB.out W
      go_simp
      obtain ⟨h0, h1, h2, h3, h4, h5, h6, h7, h8, h9, h10, h11, h12, h13, h14, h15, h16, h17, h18, h19, h20, h21, h22, h23, h24, h26, h28, h29, h30, h31, h32, h33, gP1, gP2, gW⟩ := HI.out
      exact hK'.out _ _ ⟨⟨b0, b1, b2, b3, b4, b5, b6, b7, b8, b9, b10, b11, b12, b13, b14, b15, b16, b17, b18, b19, b20, true, b22, b23, b24, b25, b26, b27, b28, b29, b30, b31, b32, b33, s21, s22, s23, s24, s25, s26, s27, s28, s29, s30, s31, s32, s33, s34, _, s36, s37, _, s39, s40, _, _, s43, s44, s45, s46, s47, s48, s49, s50, s51, s52, s53, s6⟩, rfl, rfl, h0, h1, h2, h3, h4, h5, h6, h7, h8, h9, h10, h11, h12, h13, h14, h15, h16, h17, h18, h19, h20, (fun _ => rfl), h22, h23, h24, h26, h28, h29, h30, h31, h32, h33, gP1, gP2, gW⟩
    · have hn22 : b22 = false := by revert hp; cases b22 <;> simp
      have e14 : b14 = true := by revert hp; cases b14 <;> simp
      have e21 : b21 = true := by revert hp; cases b21 <;> simp
      clear hp
      obtain rfl := (HI.out.2.2.2.2.2.2.2.2.2.2.2.2.2.2.1) e14
      obtain rfl := (HI.out.2.2.2.2.2.2.2.2.2.2.2.2.2.2.2.2.2.2.2.2.2.1) e21
      subst hn22
      refine inv_op (o := ⟨some 43, _, _, _, _, _⟩) rfl (fun K' hK' => ?_)
      go_simp
      obtain ⟨h0, h1, h2, h3, h4, h5, h6, h7, h8, h9, h10, h11, h12, h13, h14, h15, h16, h17, h18, h19, h20, h21, h22, h23, h24, h26, h28, h29, h30, h31, h32, h33, gP1, gP2, gW⟩ := HI.out
      exact hK'.out _ _ ⟨⟨b0, b1, b2, b3, b4, b5, b6, b7, b8, b9, b10, b11, b12, b13, b14, b15, b16, b17, b18, b19, b20, b21, true, b23, b24, b25, b26, b27, b28, b29, b30, b31, b32, b33, s21, s22, s23, s24, s25, s26, s27, s28, s29, s30, s31, s32, s33, s34, _, s36, s37, s38, s39, s40, s41, _, _, s44, s45, s46, s47, s48, s49, s50, s51, s52, s53, s6⟩, rfl, rfl, h0, h1, h2, h3, h4, h5, h6, h7, h8, h9, h10, h11, h12, h13, h14, h15, h16, h17, h18, h19, h20, h21, (fun _ => rfl), h23, h24, h26, h28, h29, h30, h31, h32, h33, gP1, gP2, gW⟩
    · have hn23 : b23 = false := by revert hp; cases b23 <;> simp
      have e22 : b22 = true := by revert hp; cases b22 <;> simp
      clear hp
      obtain rfl := (HI.out.2.2.2.2.2.2.2.2.2.2.2.2.2.2.2.2.2.2.2.2.2.2.1) e22
      subst hn23
      refine inv_op (o := ⟨some 44, _, _, _, _, _⟩) rfl (fun K' hK' => ?_)
      go_simp
      obtain ⟨h0, h1, h2, h3, h4, h5, h6, h7, h8, h9, h10, h11, h12, h13, h14, h15, h16, h17, h18, h19, h20, h21, h22, h23, h24, h26, h28, h29, h30, h31, h32, h33, gP1, gP2, gW⟩ := HI.out
      exact hK'.out _ _ ⟨⟨b0, b1, b2, b3, b4, b5, b6, b7, b8, b9, b10, b11, b12, b13, b14, b15, b16, b17, b18, b19, b20, b21, b22, true, b24, b25, b26, b27, b28, b29, b30, b31, b32, b33, s21, s22, s23, s24, s25, s26, s27, s28, s29, s30, s31, s32, s33, s34, s35, s36, s37, s38, s39, s40, s41, s42, _, _, s45, s46, s47, s48, s49, s50, s51, s52, s53, s6⟩, rfl, rfl, h0, h1, h2, h3, h4, h5, h6, h7, h8, h9, h10, h11, h12, h13, h14, h15, h16, h17, h18, h19, h20, h21, h22, (fun _ => rfl), h24, h26, h28, h29, h30, h31, h32, h33, gP1, gP2, gW⟩
    · have hn24 : b24 = false := by revert hp; cases b24 <;> simp
      have e23 : b23 = true := by revert hp; cases b23 <;> simp
      clear hp
      obtain rfl := (HI.out.2.2.2.2.2.2.2.2.2.2.2.2.2.2.2.2.2.2.2.2.2.2.2.1) e23
      subst hn24
      refine inv_op (o := ⟨some 45, _, _, _, _, _⟩) rfl (fun K' hK' => ?_)
      go_simp
      obtain ⟨h0, h1, h2, h3, h4, h5, h6, h7, h8, h9, h10, h11, h12, h13, h14, h15, h16, h17, h18, h19, h20, h21, h22, h23, h24, h26, h28, h29, h30, h31, h32, h33, gP1, gP2, gW⟩ := HI.out
      exact hK'.out _ _ ⟨⟨b0, b1, b2, b3, b4, b5, b6, b7, b8, b9, b10, b11, b12, b13, b14, b15, b16, b17, b18, b19, b20, b21, b22, b23, true, b25, b26, b27, b28, b29, b30, b31, b32, b33, s21, s22, s23, s24, s25, s26, s27, s28, s29, s30, s31, s32, s33, s34, s35, s36, s37, s38, s39, s40, s41, s42, s43, _, _, s46, s47, s48, s49, s50, s51, s52, s53, s6⟩, rfl, rfl, h0, h1, h2, h3, h4, h5, h6, h7, h8, h9, h10, h11, h12, h13, h14, h15, h16, h17, h18, h19, h20, h21, h22, h23, (fun _ => rfl), h26, h28, h29, h30, h31, h32, h33, gP1, gP2, gW⟩
    · have hn25 : b25 = false := by revert hp; cases b25 <;> simp
      have e23 : b23 = true := by revert hp; cases b23 <;> simp
      have e24 : b24 = true := by revert hp; cases b24 <;> simp
      clear hp
      obtain rfl := (HI.out.2.2.2.2.2.2.2.2.2.2.2.2.2.2.2.2.2.2.2.2.2.2.2.1) e23
      obtain rfl := (HI.out.2.2.2.2.2.2.2.2.2.2.2.2.2.2.2.2.2.2.2.2.2.2.2.2.1) e24
      subst hn25
      refine inv_op (o := ⟨some 46, _, _, _, _, _⟩) rfl (fun K' hK' => ?_)
      have gW := HI.out.2.2.2.2.2.2.2.2.2.2.2.2.2.2.2.2.2.2.2.2.2.2.2.2.2.2.2.2.2.2.2.2.2.2
      go_simp
      refine (HPD.out W gW).mono ?_
      rintro e w1 ⟨a9, c9, rfl, hp9, bn⟩
      obtain ⟨h0, h1, h2, h3, h4, h5, h6, h7, h8, h9, h10, h11, h12, h13, h14, h15, h16, h17, h18, h19, h20, h21, h22, h23, h24, h26, h28, h29, h30, h31, h32, h33, gP1, gP2, gW⟩ := HI.out
      exact hK'.out _ _ ⟨⟨b0, b1, b2, b3, b4, b5, b6, b7, b8, b9, b10, b11, b12, b13, b14, b15, b16, b17, b18, b19, b20, b21, b22, b23, b24, true, b26, b27, b28, b29, b30, b31, b32, b33, s21, s22, s23, s24, s25, s26, s27, s28, s29, s30, s31, s32, s33, s34, s35, s36, s37, s38, s39, s40, s41, s42, s43, _, _, _, s47, s48, s49, s50, s51, s52, s53, s6⟩, rfl, rfl, h0, h1, h2, h3, h4, h5, h6, h7, h8, h9, h10, h11, h12, h13, h14, h15, h16, h17, h18, h19, h20, h21, h22, h23, h24, h26, h28, h29, h30, h31, h32, h33, (fun _ => hp9), (fun h => (gP2 h).below bn), (gW.trans (bn.mono gW.size))⟩
    · have hn26 : b26 = false := by revert hp; cases b26 <;> simp
      have e23 : b23 = true := by revert hp; cases b23 <;> simp
      clear hp
      obtain rfl := (HI.out.2.2.2.2.2.2.2.2.2.2.2.2.2.2.2.2.2.2.2.2.2.2.2.1) e23
      subst hn26
      refine inv_op (o := ⟨some 47, _, _, _, _, _⟩) rfl (fun K' hK' => ?_)
      go_simp
      obtain ⟨h0, h1, h2, h3, h4, h5, h6, h7, h8, h9, h10, h11, h12, h13, h14, h15, h16, h17, h18, h19, h20, h21, h22, h23, h24, h26, h28, h29, h30, h31, h32, h33, gP1, gP2, gW⟩ := HI.out
      exact hK'.out _ _ ⟨⟨b0, b1, b2, b3, b4, b5, b6, b7, b8, b9, b10, b11, b12, b13, b14, b15, b16, b17, b18, b19, b20, b21, b22, b23, b24, b25, true, b27, b28, b29, b30, b31, b32, b33, s21, s22, s23, s24, s25, s26, s27, s28, s29, s30, s31, s32, s33, s34, s35, s36, s37, s38, s39, s40, s41, s42, s43, _, s45, s46, _, s48, s49, s50, s51, s52, s53, s6⟩, rfl, rfl, h0, h1, h2, h3, h4, h5, h6, h7, h8, h9, h10, h11, h12, h13, h14, h15, h16, h17, h18, h19, h20, h21, h22, h23, h24, (fun _ => rfl), h28, h29, h30, h31, h32, h33, gP1, gP2, gW⟩
    · have hn27 : b27 = false := by revert hp; cases b27 <;> simp
      have e23 : b23 = true := by revert hp; cases b23 <;> simp
      have e26 : b26 = true := by revert hp; cases b26 <;> simp
      clear hp
      obtain rfl := (HI.out.2.2.2.2.2.2.2.2.2.2.2.2.2.2.2.2.2.2.2.2.2.2.2.1) e23
      obtain rfl := (HI.out.2.2.2.2.2.2.2.2.2.2.2.2.2.2.2.2.2.2.2.2.2.2.2.2.2.1) e26
      subst hn27
      refine inv_op (o := ⟨some 48, _, _, _, _, _⟩) rfl (fun K' hK' => ?_)
      have gW := HI.out.2.2.2.2.2.2.2.2.2.2.2.2.2.2.2.2.2.2.2.2.2.2.2.2.2.2.2.2.2.2.2.2.2.2
      go_simp
      refine (HRP.out W gW).mono ?_
      rintro e w1 ⟨a9, c9, rfl, hp9, bn⟩
      obtain ⟨h0, h1, h2, h3, h4, h5, h6, h7, h8, h9, h10, h11, h12, h13, h14, h15, h16, h17, h18, h19, h20, h21, h22, h23, h24, h26, h28, h29, h30, h31, h32, h33, gP1, gP2, gW⟩ := HI.out
      exact hK'.out _ _ ⟨⟨b0, b1, b2, b3, b4, b5, b6, b7, b8, b9, b10, b11, b12, b13, b14, b15, b16, b17, b18, b19, b20, b21, b22, b23, b24, b25, b26, true, b28, b29, b30, b31, b32, b33, s21, s22, s23, s24, s25, s26, s27, s28, s29, s30, s31, s32, s33, s34, s35, s36, s37, s38, s39, s40, s41, s42, s43, _, s45, s46, _, _, s49, s50, s51, s52, s53, s6⟩, rfl, rfl, h0, h1, h2, h3, h4, h5, h6, h7, h8, h9, h10, h11, h12, h13, h14, h15, h16, h17, h18, h19, h20, h21, h22, h23, h24, h26, h28, h29, h30, h31, h32, h33, (fun h => (gP1 h).below bn), (fun _ => hp9), (gW.trans (bn.mono gW.size))⟩
    · have hn28 : b28 = false := by revert hp; cases b28 <;> simp
      have e23 : b23 = true := by revert hp; cases b23 <;> simp
      have e25 : b25 = true := by revert hp; cases b25 <;> simp
      have e27 : b27 = true := by revert hp; cases b27 <;> simp
      clear hp
      obtain rfl := (HI.out.2.2.2.2.2.2.2.2.2.2.2.2.2.2.2.2.2.2.2.2.2.2.2.1) e23
      subst hn28
      refine inv_op (o := ⟨some 49, _, _, _, _, _⟩) rfl (fun K' hK' => ?_)
      have gP1 := HI.out.2.2.2.2.2.2.2.2.2.2.2.2.2.2.2.2.2.2.2.2.2.2.2.2.2.2.2.2.2.2.2.2.1
      have gP2 := HI.out.2.2.2.2.2.2.2.2.2.2.2.2.2.2.2.2.2.2.2.2.2.2.2.2.2.2.2.2.2.2.2.2.2.1
      have hk1 := gP1 e25
      have hk2 := gP2 e27
      obtain ⟨a7, c7, hs7⟩ := hk1.shape
      subst hs7
      obtain ⟨a8, c8, hs8⟩ := hk2.shape
      subst hs8
      rw [if_pos (by kernel_rfl)]
      go_simp
      refine (bytes_same _ _ PD _ hk1 hk2).mono ?_
      rintro e w1 ⟨rfl, rfl⟩
      obtain ⟨h0, h1, h2, h3, h4, h5, h6, h7, h8, h9, h10, h11, h12, h13, h14, h15, h16, h17, h18, h19, h20, h21, h22, h23, h24, h26, h28, h29, h30, h31, h32, h33, gP1, gP2, gW⟩ := HI.out
      exact hK'.out _ _ ⟨⟨b0, b1, b2, b3, b4, b5, b6, b7, b8, b9, b10, b11, b12, b13, b14, b15, b16, b17, b18, b19, b20, b21, b22, b23, b24, b25, b26, b27, true, b29, b30, b31, b32, b33, s21, s22, s23, s24, s25, s26, s27, s28, s29, s30, s31, s32, s33, s34, s35, s36, s37, s38, s39, s40, s41, s42, s43, _, s45, _, s47, _, _, s50, s51, s52, s53, s6⟩, rfl, rfl, h0, h1, h2, h3, h4, h5, h6, h7, h8, h9, h10, h11, h12, h13, h14, h15, h16, h17, h18, h19, h20, h21, h22, h23, h24, h26, (fun _ => rfl), h29, h30, h31, h32, h33, gP1, gP2, gW⟩
    · have hn29 : b29 = false := by revert hp; cases b29 <;> simp
      have e23 : b23 = true := by revert hp; cases b23 <;> simp
      have e28 : b28 = true := by revert hp; cases b28 <;> simp
      clear hp
      obtain rfl := (HI.out.2.2.2.2.2.2.2.2.2.2.2.2.2.2.2.2.2.2.2.2.2.2.2.1) e23
      obtain rfl := (HI.out.2.2.2.2.2.2.2.2.2.2.2.2.2.2.2.2.2.2.2.2.2.2.2.2.2.2.1) e28
      subst hn29
      refine inv_op (o := ⟨some 50, _, _, _, _, _⟩) rfl (fun K' hK' => ?_)
      go_simp
      obtain ⟨h0, h1, h2, h3, h4, h5, h6, h7, h8, h9, h10, h11, h12, h13, h14, h15, h16, h17, h18, h19, h20, h21, h22, h23, h24, h26, h28, h29, h30, h31, h32, h33, gP1, gP2, gW⟩ := HI.out
      exact hK'.out _ _ ⟨⟨b0, b1, b2, b3, b4, b5, b6, b7, b8, b9, b10, b11, b12, b13, b14, b15, b16, b17, b18, b19, b20, b21, b22, b23, b24, b25, b26, b27, b28, true, b30, b31, b32, b33, s21, s22, s23, s24, s25, s26, s27, s28, s29, s30, s31, s32, s33, s34, s35, s36, s37, s38, s39, s40, s41, s42, s43, _, s45, s46, s47, s48, _, _, s51, s52, s53, s6⟩, rfl, rfl, h0, h1, h2, h3, h4, h5, h6, h7, h8, h9, h10, h11, h12, h13, h14, h15, h16, h17, h18, h19, h20, h21, h22, h23, h24, h26, h28, (fun _ => rfl), h30, h31, h32, h33, gP1, gP2, gW⟩
    · have hn30 : b30 = false := by revert hp; cases b30 <;> simp
      have e29 : b29 = true := by revert hp; cases b29 <;> simp
      clear hp
      obtain rfl := (HI.out.2.2.2.2.2.2.2.2.2.2.2.2.2.2.2.2.2.2.2.2.2.2.2.2.2.2.2.1) e29
      subst hn30
      refine inv_op (o := ⟨some 51, _, _, _, _, _⟩) rfl (fun K' hK' => ?_)
      go_simp
      obtain ⟨h0, h1, h2, h3, h4, h5, h6, h7, h8, h9, h10, h11, h12, h13, h14, h15, h16, h17, h18, h19, h20, h21, h22, h23, h24, h26, h28, h29, h30, h31, h32, h33, gP1, gP2, gW⟩ := HI.out
      exact hK'.out _ _ ⟨⟨b0, b1, b2, b3, b4, b5, b6, b7, b8, b9, b10, b11, b12, b13, b14, b15, b16, b17, b18, b19, b20, b21, b22, b23, b24, b25, b26, b27, b28, b29, true, b31, b32, b33, s21, s22, s23, s24, s25, s26, s27, s28, s29, s30, s31, s32, s33, s34, s35, s36, s37, s38, s39, s40, s41, s42, s43, s44, s45, s46, s47, s48, s49, _, _, s52, s53, s6⟩, rfl, rfl, h0, h1, h2, h3, h4, h5, h6, h7, h8, h9, h10, h11, h12, h13, h14, h15, h16, h17, h18, h19, h20, h21, h22, h23, h24, h26, h28, h29, (fun _ => rfl), h31, h32, h33, gP1, gP2, gW⟩
    · have hn31 : b31 = false := by revert hp; cases b31 <;> simp
      have e30 : b30 = true := by revert hp; cases b30 <;> simp
      clear hp
      obtain rfl := (HI.out.2.2.2.2.2.2.2.2.2.2.2.2.2.2.2.2.2.2.2.2.2.2.2.2.2.2.2.2.1) e30
      subst hn31
      refine inv_op (o := ⟨some 52, _, _, _, _, _⟩) rfl (fun K' hK' => ?_)
      have gW := HI.out.2.2.2.2.2.2.2.2.2.2.2.2.2.2.2.2.2.2.2.2.2.2.2.2.2.2.2.2.2.2.2.2.2.2
      go_simp
      refine (HHD.out W gW).mono ?_
      rintro e w1 ⟨rfl, bn⟩
      obtain ⟨h0, h1, h2, h3, h4, h5, h6, h7, h8, h9, h10, h11, h12, h13, h14, h15, h16, h17, h18, h19, h20, h21, h22, h23, h24, h26, h28, h29, h30, h31, h32, h33, gP1, gP2, gW⟩ := HI.out
      exact hK'.out _ _ ⟨⟨b0, b1, b2, b3, b4, b5, b6, b7, b8, b9, b10, b11, b12, b13, b14, b15, b16, b17, b18, b19, b20, b21, b22, b23, b24, b25, b26, b27, b28, b29, b30, true, b32, b33, s21, s22, s23, s24, s25, s26, s27, s28, s29, s30, s31, s32, s33, s34, s35, s36, s37, s38, s39, s40, s41, s42, s43, s44, s45, s46, s47, s48, s49, s50, _, _, s53, s6⟩, rfl, rfl, h0, h1, h2, h3, h4, h5, h6, h7, h8, h9, h10, h11, h12, h13, h14, h15, h16, h17, h18, h19, h20, h21, h22, h23, h24, h26, h28, h29, h30, (fun _ => rfl), h32, h33, (fun h => (gP1 h).below bn), (fun h => (gP2 h).below bn), (gW.trans (bn.mono gW.size))⟩
    · have hn32 : b32 = false := by revert hp; cases b32 <;> simp
      have e30 : b30 = true := by revert hp; cases b30 <;> simp
      have e31 : b31 = true := by revert hp; cases b31 <;> simp
      clear hp
      obtain rfl := (HI.out.2.2.2.2.2.2.2.2.2.2.2.2.2.2.2.2.2.2.2.2.2.2.2.2.2.2.2.2.1) e30
      obtain rfl := (HI.out.2.2.2.2.2.2.2.2.2.2.2.2.2.2.2.2.2.2.2.2.2.2.2.2.2.2.2.2.2.1) e31
      subst hn32
      refine inv_op (o := ⟨some 53, _, _, _, _, _⟩) rfl (fun K' hK' => ?_)
      go_simp
      obtain ⟨h0, h1, h2, h3, h4, h5, h6, h7, h8, h9, h10, h11, h12, h13, h14, h15, h16, h17, h18, h19, h20, h21, h22, h23, h24, h26, h28, h29, h30, h31, h32, h33, gP1, gP2, gW⟩ := HI.out
      exact hK'.out _ _ ⟨⟨b0, b1, b2, b3, b4, b5, b6, b7, b8, b9, b10, b11, b12, b13, b14, b15, b16, b17, b18, b19, b20, b21, b22, b23, b24, b25, b26, b27, b28, b29, b30, b31, true, b33, s21, s22, s23, s24, s25, s26, s27, s28, s29, s30, s31, s32, s33, s34, s35, s36, s37, s38, s39, s40, s41, s42, s43, s44, s45, s46, s47, s48, s49, s50, _, _, _, s6⟩, rfl, rfl, h0, h1, h2, h3, h4, h5, h6, h7, h8, h9, h10, h11, h12, h13, h14, h15, h16, h17, h18, h19, h20, h21, h22, h23, h24, h26, h28, h29, h30, h31, (fun _ => rfl), h33, gP1, gP2, gW⟩
    · have hn33 : b33 = false := by revert hp; cases b33 <;> simp
      have e32 : b32 = true := by revert hp; cases b32 <;> simp
      clear hp
      obtain rfl := (HI.out.2.2.2.2.2.2.2.2.2.2.2.2.2.2.2.2.2.2.2.2.2.2.2.2.2.2.2.2.2.2.1) e32
      subst hn33
      refine inv_op (o := ⟨some 6, _, _, _, _, _⟩) rfl (fun K' hK' => ?_)
      go_simp
      obtain ⟨h0, h1, h2, h3, h4, h5, h6, h7, h8, h9, h10, h11, h12, h13, h14, h15, h16, h17, h18, h19, h20, h21, h22, h23, h24, h26, h28, h29, h30, h31, h32, h33, gP1, gP2, gW⟩ := HI.out
      exact hK'.out _ _ ⟨⟨b0, b1, b2, b3, b4, b5, b6, b7, b8, b9, b10, b11, b12, b13, b14, b15, b16, b17, b18, b19, b20, b21, b22, b23, b24, b25, b26, b27, b28, b29, b30, b31, b32, true, s21, s22, s23, s24, s25, s26, s27, s28, s29, s30, s31, s32, s33, s34, s35, s36, s37, s38, s39, s40, s41, s42, s43, s44, s45, s46, s47, s48, s49, s50, s51, s52, _, _⟩, rfl, rfl, h0, h1, h2, h3, h4, h5, h6, h7, h8, h9, h10, h11, h12, h13, h14, h15, h16, h17, h18, h19, h20, h21, h22, h23, h24, h26, h28, h29, h30, h31, h32, (fun _ => rfl), gP1, gP2, gW⟩
  case hdone =>
    rintro ⟨b0, b1, b2, b3, b4, b5, b6, b7, b8, b9, b10, b11, b12, b13, b14, b15, b16, b17, b18, b19, b20, b21, b22, b23, b24, b25, b26, b27, b28, b29, b30, b31, b32, b33, s21, s22, s23, s24, s25, s26, s27, s28, s29, s30, s31, s32, s33, s34, s35, s36, s37, s38, s39, s40, s41, s42, s43, s44, s45, s46, s47, s48, s49, s50, s51, s52, s53, s6⟩ W hI hall
    dsimp only at hI hall ⊢
    have HI := Lib.hid hI
    clear hI
    obtain rfl : b33 = true := hall 33 (by decide)
    obtain rfl := (HI.out.2.2.2.2.2.2.2.2.2.2.2.2.2.2.2.2.2.2.2.2.2.2.2.2.2.2.2.2.2.2.2.1) rfl
    have gW := HI.out.2.2.2.2.2.2.2.2.2.2.2.2.2.2.2.2.2.2.2.2.2.2.2.2.2.2.2.2.2.2.2.2.2.2
    clear HI hall
    have GW := Lib.hid gW
    clear gW
    go_wp2_with fail
    go_ret
    exact ⟨rfl, HBF.out.trans (GW.out.mono HBF.out.size)⟩
theorem shaTurns_law (w : World) (hL : Laid w) (h : List Nat) (h8 : h.length = 8) (h32 : ∀ x ∈ h, x < 4294967296) (v : Value) (l : List UInt8) (hv : IsArg w v l) (z : Int) (hz : -9223372036854775808 ≤ z ∧ z ≤ 9223372036854775807) :
    Calls Tryd.prog 3 #[.agg (h.map fun x : Nat => Value.int .u32 ((x : Nat) : Int)).toArray, v, .int .i64 z] w fun e w' => e = .returned (.bool true) ∧ Below w.heap.size w w' := by
  by_cases ho : 200 < l.length ∨ 2000 < z
  · exact shaTurns_out w hL h v l hv z ho
  · exact shaTurns_in w hL h h8 h32 v l hv (by omega) z (by omega)
end Go.Proofs.YtfaiblngchdpmaaDoor
