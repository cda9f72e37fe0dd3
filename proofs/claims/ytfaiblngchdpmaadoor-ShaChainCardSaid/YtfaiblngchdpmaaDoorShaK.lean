/- What Link answers, for every digest and every bytes of at most 90000. -/
import Derived.Test.YtfaiblngchdpmaaDoorShaO
namespace Go.Proofs.YtfaiblngchdpmaaDoor
open Go.RowKit Go.Lib

theorem digest_all (a : Addr) (Z : World) : (Instr.sliceAt 33 (.pointer (some a)) none none none).run Tryd.prog Z = .ok (.slice (some a) 32 32) Z := by
  rw [run_sliceAt_array_all (P := Tryd.prog) Z 33 a (by kernel_rfl)]
  have hs : (sizeOf (Tryd.prog.elem 33)).run Tryd.prog Z = .ok 1 Z := by kernel_rfl
  rw [hs]
  have h32 : Tryd.prog.arrayLen 33 = 32 := by kernel_rfl
  simp only [Result.andThen, slicedAt, h32]
  congr 2
set_option maxHeartbeats 2000000 in
set_option maxRecDepth 100000 in
theorem link_any (D : List UInt8) (hD : D.length = 32) (v : Value) (l : List UInt8) (hl : l.length ≤ 90000) (w : World) (hv : IsArg w v l) (hL : Laid w) :
    Calls Tryd.prog 17 #[.agg (byteCells D).toArray, v] w fun e w' => e = .returned (.agg (byteCells (shaOf (D ++ l))).toArray) ∧ Below w.heap.size w w' := by
  obtain ⟨a, c, hsh⟩ := hv.1.shape
  have HV := Lib.hid hv
  have HLd := Lib.hid hL
  rw [hsh] at HV
  subst hsh
  obtain ⟨N, hN⟩ : ∃ N, N = l.length := ⟨_, rfl⟩
  rw [← hN] at HV
  rw [← hN]
  have HN := Lib.hid hN
  obtain ⟨A, hA⟩ : ∃ A, A = (byteCells D).toArray := ⟨_, rfl⟩
  rw [← hA]
  have HA := Lib.hid hA
  have hall := digest_all
  clear hv hL hN hA
  go_enter Tryd.func17, Tryd.ntmps17
  go_upto_region 1 with fail
  rw [← zero32_lit]
  obtain ⟨B, hB⟩ : ∃ B, B = w.heap.size := ⟨_, rfl⟩
  rw [← hB]
  generalize hW1 : (w.alloc (.cells A 33)).alloc (.cells zero32 33) = W1
  have hd1 : W1.heap[B]? = some (.cells (byteCells D).toArray 33 (0, 0)) := by rw [← hW1, hB, ← HA.out]; exact heap_alloc2_old w _ _
  have hr1 : W1.heap[B + 1]? = some (.cells zero32 33 (0, 0)) := by rw [← hW1, hB]; exact heap_alloc2_new w _ _
  have hb1 : Below B w W1 := by rw [← hW1, hB]; exact ((Below.refl _ _).alloc (Nat.le_refl _) _).alloc (by simp) _
  have hs1 : W1.heap.size = B + 2 := by rw [← hW1, hB]; simp
  have ha1 := isArg_of_row hd1 hD (by decide)
  have hv1 := HV.out.below (by rw [← hB]; exact hb1)
  have hcc := concat_two ha1 hv1 (by simp; omega)
  rw [hD, ← HN.out] at hcc
  have HCC := Lib.hid hcc
  have HR1 := Lib.hid hr1
  have HB1 := Lib.hid hb1
  have HBB := Lib.hid hB
  have HS1 := Lib.hid hs1
  clear hs1 hcc hd1 hr1 hb1 ha1 hv1 hW1 hB
  go_wp2_with fail
  refine HCC.out.mono ?_
  rintro e W2 ⟨r, rfl, ho, hb2⟩
  have hal := isArg_of_owns (l := D ++ l) (by rw [List.length_append, hD, ← HN.out]; exact ho)
  obtain ⟨a2, c2, hs2⟩ := hal.1.shape
  subst hs2
  have hr2 := (hb2.block _ (Array.getElem?_eq_some_iff.1 HR1.out).1).trans HR1.out
  have hbw2 := HB1.out.trans (hb2.mono (by have := HS1.out; omega))
  have hof := of_any _ (D ++ l) (by simp; omega) W2 hal (HLd.out.below (by rw [← HBB.out]; exact hbw2))
  obtain ⟨R, hR⟩ : ∃ R, R = (byteCells (shaOf (D ++ l))).toArray := ⟨_, rfl⟩
  have HR32 := Lib.hid (show (some 32 : Option Nat) = some R.size ∧ zero32.size = R.size ∧ R.all (·.oneCell') = true from ⟨by rw [hR]; simp [byteCells, shaOf_length], by rw [hR]; simp [byteCells, shaOf_length]; rfl, by rw [hR]; exact all_oneCell_toArray (byteCells_one _)⟩)
  rw [← hR] at hof
  have HRD := Lib.hid hR
  obtain ⟨n2, hn2⟩ : ∃ n, n = (D ++ l).length := ⟨_, rfl⟩
  rw [← hn2] at hof
  have HOF := Lib.hid hof
  have HR2 := Lib.hid hr2
  have HB2 := Lib.hid hbw2
  have hs2 : B + 2 ≤ W2.heap.size := by have h1 := hb2.size; have h2 := HS1.out; omega
  rw [← hn2]
  clear hof hr2 hbw2 hb2 hal ho hR hn2 HCC HR1 HB1
  go_wp2_with fail
  refine HOF.out.mono ?_
  rintro e W3 ⟨rfl, hb3⟩
  have HR3 := Lib.hid ((hb3.block _ (Array.getElem?_eq_some_iff.1 HR2.out).1).trans HR2.out)
  have HB3 := Lib.hid (HB2.out.trans (hb3.mono (by omega)))
  clear hb3
  go_wp2_with (refine wpList_store_row rfl 33 _ _ rfl (B + 1) R rfl rfl 33 zero32 HR3.out (info32.trans HR32.out.1) HR32.out.2.1 HR32.out.2.2 ?_)
  refine bodyPost_ret (results_cell_row rfl _ _ (B + 1) 33 _ (0, 0) _ rfl (setRow_heap _ _ _ _ _ _ HR3.out) und32 rfl (info32.trans HR32.out.1)) rfl ⟨by rw [HRD.out], ?_⟩
  rw [← HBB.out]
  exact below_setRow HB3.out (by omega) _
end Go.Proofs.YtfaiblngchdpmaaDoor
