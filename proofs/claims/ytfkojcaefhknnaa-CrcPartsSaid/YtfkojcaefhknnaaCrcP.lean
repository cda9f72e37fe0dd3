/- The laws CrcParts and CrcBurst return true for every input. -/
import Derived.Test.YtfkojcaefhknnaaCrcL
namespace Go.Proofs.Ytfkojcaefhknnaa
open Go.RowKit Go.Lib

set_option maxHeartbeats 2000000 in
theorem crcParts_out (w : World) (v v2 : Value) (l m : List UInt8) (hv : IsArg w v l) (hv2 : IsArg w v2 m) (h : 1500 < l.length ∨ 1500 < m.length) :
    Calls Try.prog 5 #[v, v2] w fun e w' => e = .returned (.bool true) ∧ Below w.heap.size w w' := by
  obtain ⟨a, c, rfl⟩ := hv.1.shape
  obtain ⟨a2, c2, rfl⟩ := hv2.1.shape
  clear hv hv2
  by_cases h1 : 1500 < l.length
  · clear h
    go_enter Try.func5, Try.ntmps5
    go_wp2_with (go_at_call 7; refine (heads_any _).mono ?_; rintro e w' ⟨rfl, hb⟩)
    go_ret
    exact ⟨rfl, hb⟩
  · have h2 : 1500 < m.length := by omega
    clear h
    go_enter Try.func5, Try.ntmps5
    go_wp2_with (go_at_call 7; refine (heads_any _).mono ?_; rintro e w' ⟨rfl, hb⟩)
    go_ret
    exact ⟨rfl, hb⟩

set_option maxHeartbeats 4000000 in
theorem crcParts_in (w : World) (v v2 : Value) (l m : List UInt8) (hv : IsArg w v l) (hv2 : IsArg w v2 m) (h1 : l.length ≤ 1500) (h2 : m.length ≤ 1500) :
    Calls Try.prog 5 #[v, v2] w fun e w' => e = .returned (.bool true) ∧ Below w.heap.size w w' := by
  obtain ⟨i0, hi, hz0, hz1, hz2⟩ := info_parts info8
  obtain ⟨a, c, rfl⟩ := hv.1.shape
  obtain ⟨a2, c2, rfl⟩ := hv2.1.shape
  have HV := Lib.hid hv
  have HV2 := Lib.hid hv2
  obtain ⟨s, hs⟩ : ∃ s, s = R crcOnes l := ⟨_, rfl⟩
  have hsl : s < 4294967296 := by rw [hs]; exact R_lt ones_lt l
  have hof : crcOf l = crcOnes - s := by unfold crcOf; rw [hs]
  have hnn : bits BinOp.xor IntKind.u32 IntKind.u32.max ((crcOnes - s : Nat) : Int) = (s : Int) := by
    rw [not32 _ (by unfold crcOnes; omega)]
    unfold crcOnes; congr 1; omega
  have c1 := fun W h => of_any (.slice a l.length c) l W h
  rw [hof] at c1
  have C1 := Lib.hid c1
  have hfin : crcOf (l ++ m) = crcOnes - R s m := by unfold crcOf; rw [R_append, hs]
  have HF := Lib.hid hfin
  have HNN := Lib.hid hnn
  clear hv hv2 hs hof c1 hfin hnn
  obtain ⟨q, hq⟩ : ∃ q, q = crcOnes - s := ⟨_, rfl⟩
  rw [← hq] at C1 HNN
  clear hq
  go_enter Try.func5, Try.ntmps5
  go_wp2_with fail
  refine (C1.out _ HV.out.1).mono ?_
  rintro e w1 ⟨rfl, hb⟩
  have HB1 := Lib.hid hb
  have hsz1 := hb.size
  have hnn := HNN.out
  clear hb
  go_wp2_with fail
  clear hnn
  have hcells : (m = []) ∨ ∃ b off, a2 = some ⟨b, off, none⟩ ∧ c2 ≤ maxLen ∧ m.length ≤ c2 ∧ ∀ i, i < m.length → w1.cell? ⟨b, off + i, none⟩ = some (.int .u8 (m.getD i 0).toNat) := by
    rcases (HV2.out.1.below HB1.out) with ⟨_, _, _, h⟩ | ⟨b, off, cap, h3, h4, h5, h6, h7⟩
    · exact .inl h
    · cases h3; exact .inr ⟨b, off, rfl, h5, h4, h7⟩
  have HC := Lib.hid hcells
  clear hcells
  go_loop [5, 6] (fun x i => ∃ k : Nat, k ≤ m.length ∧ i = .int .i64 k ∧ x = .int .u32 (R s (m.take k) : Nat)) (fun _ i => m.length - (intOf i).toNat)
  case atStart => exact ⟨0, Nat.zero_le _, rfl, rfl⟩
  case round =>
    obtain ⟨k, hk, rfl, rfl⟩ := hrel
    obtain ⟨y, hy⟩ : ∃ y, y = R s (m.take k) := ⟨_, rfl⟩
    have hyl : y < 4294967296 := by rw [hy]; exact R_lt hsl _
    rw [← hy]
    by_cases hlt : k < m.length
    · obtain ⟨b, off, rfl, hcm, hmc, hcl0⟩ : ∃ b off, a2 = some ⟨b, off, none⟩ ∧ c2 ≤ maxLen ∧ m.length ≤ c2 ∧ ∀ i, i < m.length → w1.cell? ⟨b, off + i, none⟩ = some (.int .u8 (m.getD i 0).toNat) := by
        rcases HC.out with h | h
        · rw [h] at hlt; simp at hlt
        · exact h
      obtain ⟨x, hx⟩ : ∃ x, x = m[k]?.getD 0 := ⟨_, rfl⟩
      have hcl : w1.cell? ⟨b, off + k, none⟩ = some (.int .u8 x.toNat) := by rw [hcl0 k hlt, hx]; simp
      have hst : nextN y x = R s (m.take (k + 1)) := by rw [R_take _ _ _ hlt, ← hy, ← hx]
      have HS := Lib.hid hst
      clear hy hx hst hcl0 hcm
      go_wp2_with (go_at_call 13; refine (next_any y hyl x _).mono ?_; rintro e w' ⟨rfl, rfl⟩)
      go_round
      case rel => exact ⟨k + 1, by omega, by go_num, by rw [HS.out]⟩
      case measure => simp [intOf]; omega
    · obtain rfl : k = m.length := by omega
      have hyf : y = R s m := by rw [hy, List.take_length]
      have hnn2 := not32 y hyl
      rw [← hyf] at HF
      clear hy hyf
      have hown0 : (w1.alloc (.cells #[] 5)).ownsRow w1.heap.size 5 1 (.slice (some ⟨w1.heap.size, 0, none⟩) 0 0) 0 [] :=
        World.ownsRow_made w1 #[] 0 (Nat.le_refl _) (by decide) rfl
      have hA := (HV.out.below HB1.out).below (w' := w1.alloc (.cells #[] 5)) ((Below.refl _ _).alloc (Nat.le_refl _) _)
      have HA := Lib.hid hA
      have hA2 := (HV2.out.below HB1.out).below (w' := w1.alloc (.cells #[] 5)) ((Below.refl _ _).alloc (Nat.le_refl _) _)
      have HA2 := Lib.hid hA2
      clear hA hA2
      go_wp2_with (at_builtin; refine wpList_append_isArg _ rfl (.tmp 33) (.tmp 34) 22 rfl w1.heap.size 5 i0 (.int .u8 0) Try.underlying22 hi hz0 hz1 hz2 rfl _ _ _ rfl hown0 _ l rfl HA.out.2 (by omega) (by simp) ?_)
      intro v1 w2 hown1 hgrow1
      have hB1 : Below w1.heap.size w1 w2 := ((Below.refl _ _).alloc (Nat.le_refl _) _).grown hgrow1 (by simp) (fun k hk => (hown0.lt k hk).1)
      have hsz2 := hB1.size
      have hA3 := (HV2.out.below HB1.out).below hB1
      have HA3 := Lib.hid hA3
      have HB2 := Lib.hid hB1
      clear hA3 hB1 hgrow1 hown0
      go_wp2_with (at_builtin; refine wpList_append_isArg _ rfl (.tmp 35) (.tmp 36) 22 rfl w1.heap.size 5 i0 (.int .u8 0) Try.underlying22 hi hz0 hz1 hz2 rfl _ _ _ rfl hown1 _ m rfl HA3.out.2 (by omega) hsz2 ?_)
      intro v3 w3 hown2 hgrow2
      have hB3 := HB2.out.grown hgrow2 hsz2 (fun k hk => (hown1.lt k hk).1)
      have hib : IsBytes w3 v3 (l ++ m) := isBytes_of_owns (by rw [byteCells_append, List.length_append]; simpa using hown2)
      have hcc := of_any v3 (l ++ m) w3 hib
      rw [HF.out] at hcc
      have HCC := Lib.hid hcc
      have HB3 := Lib.hid (HB1.out.trans (hB3.mono hsz1))
      clear hcc hib hB3 hgrow2 hown2 hown1
      go_wp2_with fail
      refine HCC.out.mono ?_
      rintro e w4 ⟨rfl, hb⟩
      have HB4 := Lib.hid (HB3.out.trans (hb.mono HB3.out.size))
      clear hb
      go_wp2_with fail
      refine (heads_any _).mono ?_
      rintro e w5 ⟨rfl, hb⟩
      go_wp2
      go_ret
      exact ⟨rfl, HB4.out.trans (hb.mono HB4.out.size)⟩

theorem crcParts_law (w : World) (v : Value) (l : List UInt8) (hv : IsArg w v l) (v2 : Value) (m : List UInt8) (hv2 : IsArg w v2 m) :
    Calls Try.prog 5 #[v, v2] w fun e w' => e = .returned (.bool true) ∧ Below w.heap.size w w' := by
  by_cases h : 1500 < l.length ∨ 1500 < m.length
  · exact crcParts_out w v v2 l m hv hv2 h
  · exact crcParts_in w v v2 l m hv hv2 (by omega) (by omega)
end Go.Proofs.Ytfkojcaefhknnaa
