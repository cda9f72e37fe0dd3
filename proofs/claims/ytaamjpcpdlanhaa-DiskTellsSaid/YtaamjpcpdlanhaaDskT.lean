/- What disk.said and disk.settled answer; what was there stays. -/
import Derived.Test.YtaamjpcpdlanhaaDskS
import Derived.Test.YtaamjpcpdlanhaaDskL
namespace Go.Proofs.Ytaamjpcpdlanhaa
open Go.RowKit Go.Lib Go.Maps

set_option maxHeartbeats 2000000 in
set_option maxRecDepth 100000 in
theorem said_any (s c : Value) (S : List (List UInt8)) (C : List (Int × List UInt8)) (w : World) (hd : IsDisk w s c S C) (hS : Inside S C) (T : Nat → Bool) (B n : Nat) (D : DataW Unit) (hm : w.ownsMap Try.prog 3 (plainElem Try.prog 3) B n D) (hok : MapOk S C T C.length D) (i : Nat) (hi : i < S.length) :
    Calls Try.prog 33 #[.agg #[s, c], .map (some B), .int .i64 i] w fun e w' => ∃ V, e = .returned V ∧ IsArg w' V ((settledOf S C T).getD i []) ∧ Below w.heap.size w w' := by
  obtain ⟨a, ca, a1, c1, rfl, rfl, _, _⟩ := hd.shape
  obtain ⟨s1, s2, s3⟩ := hS
  obtain ⟨q, hq⟩ : ∃ q, q = S.length := ⟨_, rfl⟩
  obtain ⟨m, hmC⟩ : ∃ m, m = C.length := ⟨_, rfl⟩
  have HQ := Lib.hid hq
  have HMC := Lib.hid hmC
  rw [← hq] at s1 hi
  rw [← hmC] at s2
  rw [← hq, ← hmC] at hd ⊢
  have HB0 := Lib.hid ((Below.refl w.heap.size w).alloc (Nat.le_refl _) (.cells #[.slice a q ca, .slice a1 m c1] 25))
  have HD0 := Lib.hid (hd.below HB0.out)
  have HM := Lib.hid (ownsMap_below hm HB0.out)
  have hi6 : i < 256 := by omega
  have HKY := Lib.hid (show keyOf Try.prog 3 (.int .i64 (i : Int)) = some (.int .i64 (i : Int)) from keyOf_int_mk Try.underlying3 (WalkArith.wf_i64 (by omega)))
  obtain ⟨L, hL⟩ : ∃ L, L = (settledOf S C T).getD i [] := ⟨_, rfl⟩
  rw [← hL]
  have HL := Lib.hid hL
  obtain ⟨h1, h2⟩ := hok.2 i (by rw [← hq]; exact hi)
  have H1 := Lib.hid h1
  have H2 := Lib.hid h2
  obtain ⟨t, ht⟩ : ∃ t, has D (.int .i64 (i : Int)) = t := ⟨_, rfl⟩
  have HT := Lib.hid ht
  clear hd hm hok hL h1 h2 s3 ht hq hmC
  cases t with
  | true =>
    obtain ⟨p, hp1, hp2, hp3⟩ := H1.out HT.out
    rw [← HMC.out] at hp1
    obtain ⟨b, off, z, va, vn, vc, rfl, hcl1, hcl2, hz, hvn, hva⟩ := write_shape HD0.out.2 p (by rw [← HMC.out]; exact hp1)
    have HVA := Lib.hid hva
    have HP2 := Lib.hid hp2
    have HP3 := Lib.hid hp3
    have hp5 : p < 512 := by omega
    clear hz hvn hva hp2 hp3 H1 H2 hi HQ HMC
    go_enter Try.func33, Try.ntmps33
    go_wp2_with (at_lookup; refine wpList_lookup_own_ok_int _ rfl _ _ 63 rfl 3 3 .i64 lawI Try.underlying63 Try.underlying3 (zeroI _) B n _ rfl HM.out _ _ rfl HKY.out ?_)
    intro cc hat hwc
    have hcc : cc = (p : Int) := by
      have h := HP2.out.symm.trans hat
      injection h with h
      injection h with _ h
      exact h.symm
    rw [hcc, HT.out]
    clear hat hwc hcc
    go_wp2
    go_ret
    refine ⟨_, rfl, ?_, HB0.out⟩
    have h := HVA.out
    rw [← HP3.out] at h
    rw [HL.out]
    exact h
  | false =>
    obtain ⟨b, off, va, vn, vc, rfl, hcl, hvn, hva⟩ := sect_shape HD0.out.1 i (by rw [← HQ.out]; exact hi)
    have HVA := Lib.hid hva
    have HP3 := Lib.hid (H2.out HT.out)
    clear hvn hva H1 H2 HQ HMC
    go_enter Try.func33, Try.ntmps33
    go_wp2_with (at_lookup; refine wpList_lookup_own_ok_int _ rfl _ _ 63 rfl 3 3 .i64 lawI Try.underlying63 Try.underlying3 (zeroI _) B n _ rfl HM.out _ _ rfl HKY.out ?_)
    intro cc hat hwc
    rw [HT.out]
    clear hat hwc
    go_wp2
    go_ret
    refine ⟨_, rfl, ?_, HB0.out⟩
    have h := HVA.out
    rw [← HP3.out] at h
    rw [HL.out]
    exact h

theorem ownsMap_low {H : Type} {P : Program} {k : TypeId} {R : Value → Option (DataW H × List MemPlace)} {w w' : World} {b n M : Nat} {D : DataW H} (h : w.ownsMap P k R b n D) (hM : b < M) (hb : Below M w w') : w'.ownsMap P k R b n D := by
  obtain ⟨es, clock, h1, h2⟩ := h
  exact ⟨es, clock, (hb.block b hM).trans h1, h2⟩
theorem settled_mem {S : List (List UInt8)} {C : List (Int × List UInt8)} {T : Nat → Bool} (h : chkB S C = true) (i : Nat) (hi : i < S.length) : ((settledOf S C T).getD i []).length = 256 := by
  obtain ⟨h1, h2, h3, h4⟩ := chk_true.1 h
  rcases after_one S C T (fun x hx => (h4 x hx).1) C.length (Nat.le_refl _) i hi with h5 | ⟨j, hj, _, h5⟩
  · unfold settledOf
    rw [h5]
    exact h3 _ (getD_mem S i [] hi)
  · unfold settledOf
    rw [h5]
    exact (h4 _ (getD_mem C j (0, []) hj)).2.2

/-- The contract of disk.last, of a function that tells. -/
def LastIs (c fv : Value) (S : List (List UInt8)) (C : List (Int × List UInt8)) (T : Nat → Bool) (W : World) : Prop :=
  Calls Try.prog 34 #[c, fv] W fun e w' => ∃ B n D, e = .returned (.map (some B)) ∧ w'.ownsMap Try.prog 3 (plainElem Try.prog 3) B n D ∧ MapOk S C T C.length D ∧ Below W.heap.size W w'

set_option maxHeartbeats 4000000 in
set_option maxRecDepth 100000 in
theorem settled_any (s c : Value) (S : List (List UInt8)) (C : List (Int × List UInt8)) (w : World) (hd : IsDisk w s c S C) (hk : chkB S C = true) (T : Nat → Bool) (fv : Value) (hl : ∀ W, Below w.heap.size w W → LastIs c fv S C T W) :
    Calls Try.prog 28 #[.agg #[s, c], fv] w fun e w' => ∃ sv M, e = .returned (.agg #[sv, .slice none 0 0]) ∧ OwnSects w.heap.size M w' sv (settledOf S C T) ∧ Below w.heap.size w w' := by
  have HD := Lib.hid hd
  have HK := Lib.hid hk
  obtain ⟨a, ca, a1, c1, rfl, rfl, hsm, hcm⟩ := hd.shape
  obtain ⟨f1, f2, _, _⟩ := chk_true.1 hk
  obtain ⟨i0, hi, hz0, hz1, hz2⟩ := info_parts infoS
  obtain ⟨n, hSn⟩ : ∃ n, n = S.length := ⟨_, rfl⟩
  obtain ⟨m, hCm⟩ : ∃ m, m = C.length := ⟨_, rfl⟩
  have HB0 := Lib.hid (((Below.refl w.heap.size w).alloc (Nat.le_refl _) (.cells #[.slice a n ca, .slice a1 m c1] 25)).alloc (by simp) (.cells #[.slice none 0 0, .slice none 0 0] 25))
  rw [← hSn] at f1
  rw [← hCm] at f2
  rw [← hSn, ← hCm] at HD
  rw [← hSn, ← hCm]
  have HLA := Lib.hid (show ∀ W, Below w.heap.size w W → LastIs (.slice a1 m c1) fv S C T W by rw [hCm]; exact hl)
  have HSn := Lib.hid hSn
  have HCm := Lib.hid hCm
  clear hd hk hl hSn hCm hsm hcm
  go_enter Try.func28, Try.ntmps28
  go_wp2_with fail
  have hla := HLA.out _ HB0.out
  unfold LastIs at hla
  refine hla.mono ?_
  rintro e w0 ⟨Bm, nm, D, rfl, hown, hok, hb⟩
  have HM0 := Lib.hid hown
  have HOK := Lib.hid hok
  have HX0 := Lib.hid (kept2 (kept2 (box2_new w (.slice a n ca) (.slice a1 m c1) 25 (0, 0)) ((Below.refl _ _).alloc (Nat.le_refl _) (.cells #[.slice none 0 0, .slice none 0 0] 25))) hb)
  have HR0 := Lib.hid (show w0.cell? ⟨w.heap.size + 1, 0, none⟩ = some (.slice none 0 0) ∧ w0.cell? ⟨w.heap.size + 1, 1, none⟩ = some (.slice none 0 0) by
    have h := kept2 (box2_new (w.alloc (.cells #[.slice a n ca, .slice a1 m c1] 25)) (.slice none 0 0) (.slice none 0 0) 25 (0, 0)) hb
    simpa using h)
  have HF0 := Lib.hid (show w0.frozen? ⟨w.heap.size + 1, 0, none⟩ = false ∧ w0.frozen? ⟨w.heap.size + 1, 1, none⟩ = false from ⟨(hb.frozen (by simp)).trans (res_free _ _ _ _ _), (hb.frozen (by simp)).trans (res_free _ _ _ _ _)⟩)
  have HBz := Lib.hid (HB0.out.trans (hb.mono (by simp; omega)))
  have hs0 : w.heap.size + 2 ≤ w0.heap.size := by have := hb.size; simp at this; omega
  clear hla hown hok hb HLA
  obtain ⟨hx1, hx2⟩ := HX0.out
  go_wp2_with (refine wpList_make_full _ rfl _ _ 22 rfl (w.heap.size + 2) 35 i0 (.slice none 0 0) 1 Try.underlying22 hi hz0 hz1 .i64 .i64 _ _ n rfl rfl rfl rfl ?b2 ?b3 ?b4 ?_)
  case b2 => rw [hz2]; omega
  case b3 => unfold maxLen; omega
  case b4 => exact hs0
  intro w1 hown hgrow
  obtain ⟨g, hg⟩ : ∃ g, g = w0.heap.size := ⟨_, rfl⟩
  rw [← hg] at hown ⊢
  have hb01 : Below w0.heap.size w0 w1 := (Below.refl _ _).grown hgrow (Nat.le_refl _) (fun k hk => by cases hk)
  have HB1 := Lib.hid (HBz.out.trans (hb01.mono (by omega)))
  have HX := Lib.hid (kept2 HX0.out hb01)
  have HR := Lib.hid (kept2 HR0.out hb01)
  have HFZ := Lib.hid (show w1.frozen? ⟨w.heap.size + 1, 0, none⟩ = false ∧ w1.frozen? ⟨w.heap.size + 1, 1, none⟩ = false from ⟨(hb01.frozen (by show w.heap.size + 1 < w0.heap.size; omega)).trans HF0.out.1, (hb01.frozen (by show w.heap.size + 1 < w0.heap.size; omega)).trans HF0.out.2⟩)
  have HM := Lib.hid (ownsMap_below HM0.out hb01)
  have hBg : Bm < g := by have := HM0.out.lt; omega
  have hg2 : w.heap.size + 2 ≤ g := by omega
  have hgl : g < w1.heap.size := (hown.lt g rfl).2
  rw [toList_madeCells_one] at hown
  have HO := Lib.hid hown
  clear hown hgrow hg hb01 hx1 hx2 HX0 HR0 HF0 HM0
  go_wp2
  go_loopw [18] (fun i wr => ∃ k : Nat, k ≤ n ∧ i = .int .i64 k ∧ (∃ xs, wr.ownsRow (w.heap.size + 2) 35 1 (.slice (some ⟨g, 0, none⟩) n n) n xs ∧ OwnPart (w.heap.size + 2) wr (settledOf S C T) k xs) ∧ w1.heap.size ≤ wr.heap.size ∧ Below g w1 wr) (fun i _ => n - (intOf i).toNat)
  case atStart => exact ⟨0, Nat.zero_le _, rfl, ⟨_, HO.out, fun i V hi => by omega, fun i j V V' q q' hij hj => by omega⟩, Nat.le_refl _, Below.refl _ _⟩
  case round =>
    obtain ⟨k, hk, rfl, ⟨xs, hxs, hpart⟩, hsz, hbw⟩ := hrel
    have HXS := Lib.hid hxs
    have HP := Lib.hid hpart
    have HBW := Lib.hid hbw
    have HBw := Lib.hid (HB1.out.trans (hbw.mono (by omega)))
    clear hxs hpart hbw
    by_cases hlt : k < n
    · have hx1 : wr.cell? ⟨w.heap.size, 0, none⟩ = some (.slice a n ca) := (HBW.out.cell (by show w.heap.size < g; omega)).trans HX.out.1
      have hx2 : wr.cell? ⟨w.heap.size, 1, none⟩ = some (.slice a1 m c1) := (HBW.out.cell (by show w.heap.size < g; omega)).trans HX.out.2
      have HMr := Lib.hid (ownsMap_low HM.out hBg HBW.out)
      have HLK := Lib.hid (show k < S.length by rw [← HSn.out]; exact hlt)
      go_wp2_with fail
      refine (said_any _ _ S C _ (HD.out.below HBw.out) (Inside.of HK.out) T Bm nm D HMr.out HOK.out k HLK.out).mono ?_
      rintro e w2 ⟨V, rfl, hV, hb⟩
      have HV := Lib.hid hV
      have HL := Lib.hid (show ((settledOf S C T).getD k []).length ≤ 140737488355328 by rw [settled_mem HK.out k HLK.out]; decide)
      have HB2 := Lib.hid hb
      clear hV hb hx1 hx2
      go_wp2_with fail
      refine (clone_any _ _ _ HV.out HL.out).mono ?_
      rintro e w3 ⟨r, rfl, hr, hb⟩
      obtain ⟨ra, rn, rc, rfl, hrn⟩ := (isArg_of_owns hr).shape3
      clear hrn
      have HBr := Lib.hid (HB2.out.trans (hb.mono HB2.out.size))
      have HR2 := Lib.hid (ownsRow_base hr HB2.out.size)
      have HX2 := Lib.hid (ownsRow_below HXS.out HBr.out)
      obtain ⟨u, hu⟩ : ∃ u, xs[k]? = some u := ⟨xs[k]'(by have := HXS.out.1; omega), List.getElem?_eq_getElem _⟩
      have hcg : w3.cell? ⟨g, k, none⟩ = some u := by rw [HX2.out.cellAt k (by omega)]; exact hu
      have hfg : w3.frozen? ⟨g, k, none⟩ = false := HX2.out.frozenAt k
      have HS2 := Lib.hid HBr.out.size
      clear hr hb hu
      go_wp2
      go_roundw
      case rel =>
        refine ⟨k + 1, by omega, by go_num, ⟨_, (HX2.out.stored k _).1, HP.out.put HBr.out HX2.out hlt HR2.out (by omega)⟩, ?_, ?_⟩
        · have := HS2.out
          simp only [World.setCell, Array.size_modify]
          omega
        · exact (HBW.out.trans (HBr.out.mono (by omega))).setCell (Nat.le_refl _) _
      case measure => simp [intOf]; omega
    · obtain rfl : k = n := by omega
      have hr1 : wr.cell? ⟨w.heap.size + 1, 0, none⟩ = some (.slice none 0 0) := (HBW.out.cell (by show w.heap.size + 1 < g; omega)).trans HR.out.1
      have hr2 : wr.cell? ⟨w.heap.size + 1, 1, none⟩ = some (.slice none 0 0) := (HBW.out.cell (by show w.heap.size + 1 < g; omega)).trans HR.out.2
      have hz1' : wr.frozen? ⟨w.heap.size + 1, 0, none⟩ = false := (HBW.out.frozen (by show w.heap.size + 1 < g; omega)).trans HFZ.out.1
      have hz2' : wr.frozen? ⟨w.heap.size + 1, 1, none⟩ = false := (HBW.out.frozen (by show w.heap.size + 1 < g; omega)).trans HFZ.out.2
      have hlt1 : w.heap.size + 1 < wr.heap.size := by omega
      have HSE := Lib.hid (show OwnSects (w.heap.size + 2) wr.heap.size wr (.slice (some ⟨g, 0, none⟩) k k) (settledOf S C T) by
        have h1 := HXS.out
        have h2 := HP.out
        have hkl : k = (settledOf S C T).length := by rw [settled_length]; exact HSn.out
        rw [hkl] at h1 h2 ⊢
        exact ⟨xs, h1, h2, fun i V p hi hV hp => ((h2.1 i V hi hV).lt p hp).2, fun p hp => (h1.lt p hp).2⟩)
      clear HXS HP HBW
      go_wp2
      refine bodyPost_ret (v := .agg #[.slice (some ⟨g, 0, none⟩) k k, .slice none 0 0]) (by simp [results, Try.results28, go_sem, hr1, hr2]) rfl ⟨_, wr.heap.size, rfl, ?_, ?_⟩
      · exact ((HSE.out.set _ _ (by show w.heap.size + 1 < w.heap.size + 2; omega)).set _ _ (by show w.heap.size + 1 < w.heap.size + 2; omega)).base (by omega)
      · exact (HBw.out.setCell (by show w.heap.size ≤ w.heap.size + 1; omega) _).setCell (by show w.heap.size ≤ w.heap.size + 1; omega) _
end Go.Proofs.Ytaamjpcpdlanhaa
