/- What the document's own Link answers, for every digest and every bytes of at most 90000. -/
import Derived.Test.YtfaiblngchdpmaaDoorShaRO
import Derived.Test.YtfaiblngchdpmaaDoorShaK
namespace Go.Proofs.YtfaiblngchdpmaaDoor
open Go.RowKit Go.Lib

set_option maxHeartbeats 2000000 in
set_option maxRecDepth 100000 in
theorem refLink_any (D : List UInt8) (hD : D.length = 32) (v : Value) (l : List UInt8) (hl : l.length ≤ 90000) (w : World) (hv : IsArg w v l) :
    Calls Tryd.prog 18 #[.agg (byteCells D).toArray, v] w fun e w' => e = .returned (.agg (byteCells (shaOf (D ++ l))).toArray) ∧ Below w.heap.size w w' := by
  obtain ⟨i0, hi, hz0, hz1, hz2⟩ := info_parts info8
  obtain ⟨a, c, hsh⟩ := hv.1.shape
  have HV := Lib.hid hv
  rw [hsh] at HV
  subst hsh
  obtain ⟨N, hN⟩ : ∃ N, N = l.length := ⟨_, rfl⟩
  rw [← hN] at HV
  rw [← hN]
  have HN := Lib.hid hN
  obtain ⟨A, hA⟩ : ∃ A, A = (byteCells D).toArray := ⟨_, rfl⟩
  rw [← hA]
  have HA := Lib.hid hA
  have hall := digest_all
  clear hv hN hA
  go_enter Tryd.func18, Tryd.ntmps18
  go_upto_region 1 with fail
  rw [← zero32_lit]
  obtain ⟨B, hB⟩ : ∃ B, B = w.heap.size := ⟨_, rfl⟩
  rw [← hB]
  generalize hW1 : (w.alloc (.cells A 33)).alloc (.cells zero32 33) = W1
  have hd1 : W1.heap[B]? = some (.cells (byteCells D).toArray 33 (0, 0)) := by rw [← hW1, hB, ← HA.out]; exact heap_alloc2_old w _ _
  have hr1 : W1.heap[B + 1]? = some (.cells zero32 33 (0, 0)) := by rw [← hW1, hB]; exact heap_alloc2_new w _ _
  have hb1 : Below B w W1 := by rw [← hW1, hB]; exact ((Below.refl _ _).alloc (Nat.le_refl _) _).alloc (by simp) _
  have hs1 : W1.heap.size = B + 2 := by rw [← hW1, hB]; simp
  have hb01 : Below W1.heap.size W1 (W1.alloc (.cells #[] 5)) := (Below.refl _ _).alloc (Nat.le_refl _) _
  have ha1 := (isArg_of_row hd1 hD (by decide)).below hb01
  have hown0 : (W1.alloc (.cells #[] 5)).ownsRow W1.heap.size 5 1 (.slice (some ⟨W1.heap.size, 0, none⟩) 0 0) 0 [] := World.ownsRow_made W1 #[] 0 (Nat.le_refl _) (by decide) rfl
  obtain ⟨L1, hL1⟩ : ∃ L, L = W1.heap.size := ⟨_, rfl⟩
  rw [← hL1] at hown0 hb01
  have HA1 := Lib.hid ha1.2
  have HR1 := Lib.hid hr1
  have HB1 := Lib.hid hb1
  have HBB := Lib.hid hB
  have HS1 := Lib.hid hs1
  have HL1 := Lib.hid hL1
  clear hd1 hr1 hb1 ha1 hW1 hB hs1 hL1
  go_wp2_with (at_builtin; refine wpList_append_isArg _ rfl (.tmp 5) (.tmp 6) 24 rfl L1 5 i0 (.int .u8 0) Tryd.underlying24 hi hz0 hz1 hz2 rfl _ _ _ rfl (by rw [← HL1.out]; exact hown0) _ D rfl ?c1 ?c2 ?c3 ?_)
  case c1 => exact HA1.out
  case c2 => omega
  case c3 => have := HL1.out; simp; omega
  intro v2 w2 hown2 hgrow2
  have hB2 : Below L1 W1 w2 := hb01.grown hgrow2 (by have := HL1.out; simp; omega) (fun k hk => (hown0.lt k (by rw [HL1.out]; exact hk)).1)
  have hV2 := (HV.out.below (by rw [← HBB.out]; exact HB1.out)).below (by rw [← HL1.out]; exact hB2)
  have HV2 := Lib.hid hV2.2
  have HB2 := Lib.hid hB2
  have hs2 := hB2.size
  clear hown0 hb01 hgrow2 hB2 hV2
  go_wp2_with (at_builtin; refine wpList_append_isArg _ rfl (.tmp 7) (.tmp 8) 24 rfl L1 5 i0 (.int .u8 0) Tryd.underlying24 hi hz0 hz1 hz2 rfl _ _ _ rfl hown2 _ l rfl ?c1 ?c2 ?c3 ?_)
  case c1 => exact HV2.out
  case c2 => omega
  case c3 => have := HL1.out; omega
  intro v3 w3 hown3 hgrow3
  have hB3 := HB2.out.grown hgrow3 (by have := HL1.out; omega) (fun k hk => (hown2.lt k hk).1)
  have hal := isArg_of_owns (l := D ++ l) (by rw [List.length_append, byteCells_append, hD]; exact hown3)
  have hr3 := (hB3.block _ (by have h1 := (Array.getElem?_eq_some_iff.1 HR1.out).1; have h2 := HL1.out; omega)).trans HR1.out
  have hbw3 := HB1.out.trans (hB3.mono (by have h1 := HL1.out; have h2 := HS1.out; omega))
  have hof := refOf_any _ (D ++ l) (by simp; omega) w3 hal
  obtain ⟨R, hR⟩ : ∃ R, R = (byteCells (shaOf (D ++ l))).toArray := ⟨_, rfl⟩
  have HR32 := Lib.hid (show (some 32 : Option Nat) = some R.size ∧ zero32.size = R.size ∧ R.all (·.oneCell') = true from ⟨by rw [hR]; simp [byteCells, shaOf_length], by rw [hR]; simp [byteCells, shaOf_length]; rfl, by rw [hR]; exact all_oneCell_toArray (byteCells_one _)⟩)
  rw [← hR] at hof
  have HRD := Lib.hid hR
  have HOF := Lib.hid hof
  have HR3 := Lib.hid hr3
  have HB3 := Lib.hid hbw3
  have hs3 : B + 2 ≤ w3.heap.size := by have h1 := hgrow3.size; have h2 := HL1.out; have h3 := HS1.out; omega
  clear hof hr3 hbw3 hB3 hgrow3 hal hown3 hown2 hR
  go_wp2_with fail
  refine HOF.out.mono ?_
  rintro e w4 ⟨rfl, hb4⟩
  have HR4 := Lib.hid ((hb4.block _ (Array.getElem?_eq_some_iff.1 HR3.out).1).trans HR3.out)
  have HB4 := Lib.hid (HB3.out.trans (hb4.mono (by omega)))
  clear hb4
  go_wp2_with (refine wpList_store_row rfl 33 _ _ rfl (B + 1) R rfl rfl 33 zero32 HR4.out (info32.trans HR32.out.1) HR32.out.2.1 HR32.out.2.2 ?_)
  refine bodyPost_ret (results_cell_row rfl _ _ (B + 1) 33 _ (0, 0) _ rfl (setRow_heap _ _ _ _ _ _ HR4.out) und32 rfl (info32.trans HR32.out.1)) rfl ⟨by rw [HRD.out], ?_⟩
  rw [← HBB.out]
  exact below_setRow HB4.out (by omega) _
end Go.Proofs.YtfaiblngchdpmaaDoor
