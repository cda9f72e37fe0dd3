/- What the document's own Tamper answers. -/
import Derived.Test.YtaamjpcpdlanhaaDskJ
import Derived.Test.YtaamjpcpdlanhaaDskM
namespace Go.Proofs.Ytaamjpcpdlanhaa
open Go.RowKit Go.Lib

theorem tamper_ways (S : List (List UInt8)) (C : List (Int × List UInt8)) (z p : Int) :
    (chkB S C = false ∧ tFault S C z p = 3) ∨ (chkB S C = true ∧ ¬ (0 ≤ z ∧ z < (S.length : Int)) ∧ tFault S C z p = 50) ∨ (chkB S C = true ∧ (0 ≤ z ∧ z < (S.length : Int)) ∧ p < 0 ∧ tFault S C z p = 2) ∨ (chkB S C = true ∧ (0 ≤ z ∧ z < (S.length : Int)) ∧ 0 ≤ p ∧ 256 ≤ p ∧ tFault S C z p = 2) ∨ (chkB S C = true ∧ (0 ≤ z ∧ z < (S.length : Int)) ∧ 0 ≤ p ∧ p < 256 ∧ tFault S C z p = 0) := by
  unfold tFault
  rcases dFault_cases S C z with ⟨h0, h1⟩ | ⟨h0, h1, h2⟩ | ⟨h0, h1, h2, h3⟩
  · refine .inl ⟨h1, ?_⟩
    rw [h0]; rfl
  · refine .inr (.inl ⟨h1, h2, ?_⟩)
    rw [h0]; rfl
  · rw [h0, if_pos rfl]
    by_cases h4 : 0 ≤ p
    · by_cases h5 : p < 256
      · rw [if_pos ⟨h4, h5⟩]
        exact .inr (.inr (.inr (.inr ⟨h1, ⟨h2, h3⟩, h4, h5, rfl⟩)))
      · rw [if_neg (fun h => h5 h.2)]
        exact .inr (.inr (.inr (.inl ⟨h1, ⟨h2, h3⟩, h4, by omega, rfl⟩)))
    · rw [if_neg (fun h => h4 h.1)]
      exact .inr (.inr (.inl ⟨h1, ⟨h2, h3⟩, by omega, rfl⟩))
theorem sects_put {w W : World} {Vs : List Value} {S : List (List UInt8)} {i B : Nat} {l : List UInt8} {v V : Value} (h : Vs.length = S.length ∧ ∀ (i : Nat) (V : Value) (l : List UInt8), Vs[i]? = some V → S[i]? = some l → IsArg w V l) (hb : Below w.heap.size w W) (ho : W.ownsRow B 35 1 v S.length (Vs.set i V)) (ha : IsArg W V l) : Sects W v (S.set i l) := by
  refine ⟨Vs.set i V, by simp [h.1], by rw [List.length_set]; exact held_of_owns ho, fun j U k hU hk => ?_⟩
  by_cases he : j = i
  · subst he
    rw [List.getElem?_set] at hU hk
    simp at hU hk
    obtain ⟨_, rfl⟩ := hU
    obtain ⟨_, rfl⟩ := hk
    exact ha
  · rw [List.getElem?_set_ne (fun e => he e.symm)] at hU hk
    exact (h.2 j U k hU hk).below hb
theorem own_byte {W : World} {B g cap k j : Nat} {L : List UInt8} (h : W.ownsRow B 5 1 (.slice (some ⟨g, 0, none⟩) k cap) k (byteCells L)) (y : UInt8) : (W.setCell ⟨g, j, none⟩ (.int .u8 (y.toNat : Nat))).ownsRow B 5 1 (.slice (some ⟨g, 0, none⟩) k cap) k (byteCells (L.set j y)) := by
  have h7 := (h.stored j (.int .u8 y.toNat)).1
  have h8 : (byteCells L).set j (.int .u8 y.toNat) = byteCells (L.set j y) := by simp [byteCells, List.map_set]
  rw [h8] at h7
  exact h7
theorem own_far {W : World} {B g cap k : Nat} {t : TypeId} {cs : List Value} {s : Nat} (h : W.ownsRow B t s (.slice (some ⟨g, 0, none⟩) k cap) k cs) (a : Addr) (x : Value) (hne : g ≠ a.block) : (W.setCell a x).ownsRow B t s (.slice (some ⟨g, 0, none⟩) k cap) k cs :=
  owns_keep h fun q cur hq hc => by
    obtain rfl : q = g := by simpa [Value.ownBlock] using hq.symm
    rw [Below.heap_setCell _ _ _ _ hne]
    exact hc

set_option maxHeartbeats 4000000 in
set_option maxRecDepth 100000 in
theorem refTamper_firm (s c : Value) (S : List (List UInt8)) (C : List (Int × List UInt8)) (w0 : World) (hd0 : IsDisk w0 s c S C) (z p : Int) (y : UInt8) (w : World) (hw : Below w0.heap.size w0 w) :
    Calls Try.prog 21 #[.agg #[s, c], .int .i64 z, .int .i64 p, .int .u8 (y.toNat : Nat)] w fun e w' => ∃ sv cv, e = .returned (.tuple #[.agg #[sv, cv], .int .i64 (tFault S C z p)]) ∧ Firm w0 w' sv cv (tamperOf S C z p y) C ∧ Below w.heap.size w w' := by
  have HD0 := Lib.hid hd0
  have hd := hd0.below hw
  have HD := Lib.hid hd
  obtain ⟨Vs, hV1, hV20, hV3⟩ := hd0.1
  have hV2 := hV20.below hw
  obtain ⟨a, ca, a1, c1, rfl, rfl, _, _⟩ := hd.shape
  obtain ⟨n, hSn⟩ : ∃ n, n = S.length := ⟨_, rfl⟩
  obtain ⟨m, hCm⟩ : ∃ m, m = C.length := ⟨_, rfl⟩
  have hways := tamper_ways S C z p
  rw [← hSn, ← hCm] at HD HD0
  rw [← hSn] at hways
  rw [← hSn, ← hCm]
  rw [← hSn] at hV2
  have HB0 := Lib.hid (((Below.refl w.heap.size w).alloc (Nat.le_refl _) (.cells #[.slice a n ca, .slice a1 m c1] 25)).alloc (by simp) (.cells #[.slice none 0 0, .slice none 0 0] 25))
  have HSN := Lib.hid hSn.symm
  have HVO := Lib.hid (slices_one hV1 hV3)
  have HVL := Lib.hid (show Vs.length = n by rw [hV1, hSn])
  have HVH := Lib.hid hV2
  have HV3 := Lib.hid (show Vs.length = S.length ∧ _ from ⟨hV1, hV3⟩)
  clear hd hd0 hw hV20 hSn hCm hV1 hV2 hV3
  rcases hways with ⟨hk, hF⟩ | ⟨hk, hz, hF⟩ | ⟨hk, hz, hp, hF⟩ | ⟨hk, hz, hp0, hp, hF⟩ | ⟨hk, hz, hp0, hp, hF⟩
  · rw [hF, tamperOf_other y (by rw [hF]; decide)]
    have HK := Lib.hid hk
    clear hk hF
    go_enter Try.func21, Try.ntmps21
    go_wp2_with fail
    refine (refCheck_any _ _ _ _ _ (HD.out.below HB0.out) false HK.out).mono ?_
    rintro e w1 ⟨rfl, hb⟩
    have HB1 := Lib.hid (HB0.out.trans (hb.mono (by simp; omega)))
    obtain ⟨hrow0, hrow1, hlt1⟩ := boxes_rows hb
    have HRA := Lib.hid hrow0
    have HRB := Lib.hid hrow1
    clear hb hrow0 hrow1 hlt1
    obtain ⟨⟨hx1, hx2⟩, hx3, hx4⟩ := box_cells HRA.out
    obtain ⟨⟨hr1, hr2⟩, hr3, hr4⟩ := box_cells HRB.out
    have hlt := (Array.getElem?_eq_some_iff.1 HRB.out).1
    go_wp2
    have hb9 := (HB1.out.setCell (p := ⟨w.heap.size + 1, 0, none⟩) (by show w.heap.size ≤ w.heap.size + 1; omega) (.slice a n ca)).setCell (p := ⟨w.heap.size + 1, 1, none⟩) (by show w.heap.size ≤ w.heap.size + 1; omega) (.slice a1 m c1)
    exact bodyPost_ret (v := .tuple #[.agg #[.slice a n ca, .slice a1 m c1], .int .i64 3]) (by simp [results, Try.results21, go_sem, hr1, hr2]) rfl ⟨_, _, rfl, firm_came HD0.out, hb9⟩
  · rw [hF, tamperOf_other y (by rw [hF]; decide)]
    have HK := Lib.hid hk
    have HQ := Lib.hid (decide_eq_false hz).symm
    clear hk hF hz
    go_enter Try.func21, Try.ntmps21
    go_wp2_with fail
    refine (refCheck_any _ _ _ _ _ (HD.out.below HB0.out) true HK.out).mono ?_
    rintro e w1 ⟨rfl, hb⟩
    have HB1 := Lib.hid (HB0.out.trans (hb.mono (by simp; omega)))
    obtain ⟨hrow0, hrow1, hlt1⟩ := boxes_rows hb
    have HRA := Lib.hid hrow0
    have HRB := Lib.hid hrow1
    clear hb hrow0 hrow1 hlt1
    obtain ⟨⟨hx1, hx2⟩, hx3, hx4⟩ := box_cells HRA.out
    obtain ⟨⟨hr1, hr2⟩, hr3, hr4⟩ := box_cells HRB.out
    have hlt := (Array.getElem?_eq_some_iff.1 HRB.out).1
    go_wp2_with fail
    refine (refHas_any _ _ _ _ _ _ _ false HQ.out _).mono ?_
    rintro e w2 ⟨rfl, hb⟩
    have HB2 := Lib.hid (HB1.out.trans (hb.mono HB1.out.size))
    replace HRA := Lib.hid (row_keep HRA.out hb)
    replace HRB := Lib.hid (row_keep HRB.out hb)
    clear hb hx1 hx2 hx3 hx4 hr1 hr2 hr3 hr4 hlt
    obtain ⟨⟨hx1, hx2⟩, hx3, hx4⟩ := box_cells HRA.out
    obtain ⟨⟨hr1, hr2⟩, hr3, hr4⟩ := box_cells HRB.out
    have hlt := (Array.getElem?_eq_some_iff.1 HRB.out).1
    go_wp2
    have hb9 := (HB2.out.setCell (p := ⟨w.heap.size + 1, 0, none⟩) (by show w.heap.size ≤ w.heap.size + 1; omega) (.slice a n ca)).setCell (p := ⟨w.heap.size + 1, 1, none⟩) (by show w.heap.size ≤ w.heap.size + 1; omega) (.slice a1 m c1)
    exact bodyPost_ret (v := .tuple #[.agg #[.slice a n ca, .slice a1 m c1], .int .i64 50]) (by simp [results, Try.results21, go_sem, hr1, hr2]) rfl ⟨_, _, rfl, firm_came HD0.out, hb9⟩
  · rw [hF, tamperOf_other y (by rw [hF]; decide)]
    have HK := Lib.hid hk
    have HQ := Lib.hid (decide_eq_true hz).symm
    clear hk hF hz
    have h3 : decide (p < 0) = true := decide_eq_true hp
    clear hp
    go_enter Try.func21, Try.ntmps21
    go_wp2_with fail
    refine (refCheck_any _ _ _ _ _ (HD.out.below HB0.out) true HK.out).mono ?_
    rintro e w1 ⟨rfl, hb⟩
    have HB1 := Lib.hid (HB0.out.trans (hb.mono (by simp; omega)))
    obtain ⟨hrow0, hrow1, hlt1⟩ := boxes_rows hb
    have HRA := Lib.hid hrow0
    have HRB := Lib.hid hrow1
    clear hb hrow0 hrow1 hlt1
    obtain ⟨⟨hx1, hx2⟩, hx3, hx4⟩ := box_cells HRA.out
    obtain ⟨⟨hr1, hr2⟩, hr3, hr4⟩ := box_cells HRB.out
    have hlt := (Array.getElem?_eq_some_iff.1 HRB.out).1
    go_wp2_with fail
    refine (refHas_any _ _ _ _ _ _ _ true HQ.out _).mono ?_
    rintro e w2 ⟨rfl, hb⟩
    have HB2 := Lib.hid (HB1.out.trans (hb.mono HB1.out.size))
    replace HRA := Lib.hid (row_keep HRA.out hb)
    replace HRB := Lib.hid (row_keep HRB.out hb)
    clear hb hx1 hx2 hx3 hx4 hr1 hr2 hr3 hr4 hlt
    obtain ⟨⟨hx1, hx2⟩, hx3, hx4⟩ := box_cells HRA.out
    obtain ⟨⟨hr1, hr2⟩, hr3, hr4⟩ := box_cells HRB.out
    have hlt := (Array.getElem?_eq_some_iff.1 HRB.out).1
    go_wp2
    have hb9 := (HB2.out.setCell (p := ⟨w.heap.size + 1, 0, none⟩) (by show w.heap.size ≤ w.heap.size + 1; omega) (.slice a n ca)).setCell (p := ⟨w.heap.size + 1, 1, none⟩) (by show w.heap.size ≤ w.heap.size + 1; omega) (.slice a1 m c1)
    exact bodyPost_ret (v := .tuple #[.agg #[.slice a n ca, .slice a1 m c1], .int .i64 2]) (by simp [results, Try.results21, go_sem, hr1, hr2]) rfl ⟨_, _, rfl, firm_came HD0.out, hb9⟩
  · rw [hF, tamperOf_other y (by rw [hF]; decide)]
    have HK := Lib.hid hk
    have HQ := Lib.hid (decide_eq_true hz).symm
    clear hk hF hz
    have h3 : decide (p < 0) = false := decide_eq_false (by omega)
    have h4 : decide (256 ≤ p) = true := decide_eq_true hp
    clear hp hp0
    go_enter Try.func21, Try.ntmps21
    go_wp2_with fail
    refine (refCheck_any _ _ _ _ _ (HD.out.below HB0.out) true HK.out).mono ?_
    rintro e w1 ⟨rfl, hb⟩
    have HB1 := Lib.hid (HB0.out.trans (hb.mono (by simp; omega)))
    obtain ⟨hrow0, hrow1, hlt1⟩ := boxes_rows hb
    have HRA := Lib.hid hrow0
    have HRB := Lib.hid hrow1
    clear hb hrow0 hrow1 hlt1
    obtain ⟨⟨hx1, hx2⟩, hx3, hx4⟩ := box_cells HRA.out
    obtain ⟨⟨hr1, hr2⟩, hr3, hr4⟩ := box_cells HRB.out
    have hlt := (Array.getElem?_eq_some_iff.1 HRB.out).1
    go_wp2_with fail
    refine (refHas_any _ _ _ _ _ _ _ true HQ.out _).mono ?_
    rintro e w2 ⟨rfl, hb⟩
    have HB2 := Lib.hid (HB1.out.trans (hb.mono HB1.out.size))
    replace HRA := Lib.hid (row_keep HRA.out hb)
    replace HRB := Lib.hid (row_keep HRB.out hb)
    clear hb hx1 hx2 hx3 hx4 hr1 hr2 hr3 hr4 hlt
    obtain ⟨⟨hx1, hx2⟩, hx3, hx4⟩ := box_cells HRA.out
    obtain ⟨⟨hr1, hr2⟩, hr3, hr4⟩ := box_cells HRB.out
    have hlt := (Array.getElem?_eq_some_iff.1 HRB.out).1
    go_wp2
    have hb9 := (HB2.out.setCell (p := ⟨w.heap.size + 1, 0, none⟩) (by show w.heap.size ≤ w.heap.size + 1; omega) (.slice a n ca)).setCell (p := ⟨w.heap.size + 1, 1, none⟩) (by show w.heap.size ≤ w.heap.size + 1; omega) (.slice a1 m c1)
    exact bodyPost_ret (v := .tuple #[.agg #[.slice a n ca, .slice a1 m c1], .int .i64 2]) (by simp [results, Try.results21, go_sem, hr1, hr2]) rfl ⟨_, _, rfl, firm_came HD0.out, hb9⟩
  · obtain ⟨G, hG⟩ : ∃ G, G = tamperOf S C z p y := ⟨_, rfl⟩
    rw [← hG]
    rw [tamperOf_zero y hF] at hG
    rw [hF]
    have HK := Lib.hid hk
    have HQ := Lib.hid (decide_eq_true hz).symm
    obtain ⟨z0, z1⟩ := hz
    obtain ⟨i, rfl⟩ := Int.eq_ofNat_of_zero_le z0
    obtain ⟨j, rfl⟩ := Int.eq_ofNat_of_zero_le hp0
    rw [Int.toNat_natCast, Int.toNat_natCast] at hG
    obtain ⟨k1, k2, k3, k4⟩ := chk_true.1 hk
    have hi : i < n := by omega
    have hj : j < 256 := by omega
    have hn : n ≤ 256 := by rw [← HSN.out]; exact k1
    obtain ⟨L, hLL⟩ : ∃ L, L = S.getD i [] := ⟨_, rfl⟩
    have HL := Lib.hid (show L.length = 256 by rw [hLL]; exact k3 _ (getD_mem S i [] (by rw [HSN.out]; exact hi)))
    have HLL := Lib.hid hLL
    obtain ⟨u, hu⟩ : ∃ u, u = L.getD j 0 := ⟨_, rfl⟩
    have HU := Lib.hid (show L.getD j 0 = u from hu.symm)
    rw [← hLL, ← hu] at hG
    obtain ⟨x, hx⟩ : ∃ x, x = u ^^^ y := ⟨_, rfl⟩
    rw [← hx] at hG
    have hxx := xor_byte u y
    rw [← hx] at hxx
    have HXX := Lib.hid hxx
    have HGO := Lib.hid hG
    have h3 : decide ((j : Int) < 0) = false := decide_eq_false (by omega)
    have h4 : decide ((256 : Int) ≤ (j : Int)) = false := decide_eq_false (by omega)
    have j2 : (j : Int) < 256 := by omega
    clear hk hF z0 z1 hp0 hp k1 k2 k3 k4 hG hu hx hxx hLL
    go_enter Try.func21, Try.ntmps21
    go_wp2_with fail
    refine (refCheck_any _ _ _ _ _ (HD.out.below HB0.out) true HK.out).mono ?_
    rintro e w1 ⟨rfl, hb⟩
    have HB1 := Lib.hid (HB0.out.trans (hb.mono (by simp; omega)))
    obtain ⟨hrow0, hrow1, hlt1⟩ := boxes_rows hb
    have HRA := Lib.hid hrow0
    have HRB := Lib.hid hrow1
    clear hb hrow0 hrow1 hlt1
    obtain ⟨⟨hx1, hx2⟩, hx3, hx4⟩ := box_cells HRA.out
    obtain ⟨⟨hr1, hr2⟩, hr3, hr4⟩ := box_cells HRB.out
    have hlt := (Array.getElem?_eq_some_iff.1 HRB.out).1
    go_wp2_with fail
    refine (refHas_any _ _ _ _ _ _ _ true HQ.out _).mono ?_
    rintro e w2 ⟨rfl, hb⟩
    have HB2 := Lib.hid (HB1.out.trans (hb.mono HB1.out.size))
    replace HRA := Lib.hid (row_keep HRA.out hb)
    replace HRB := Lib.hid (row_keep HRB.out hb)
    clear hb hx1 hx2 hx3 hx4 hr1 hr2 hr3 hr4 hlt
    obtain ⟨⟨hx1, hx2⟩, hx3, hx4⟩ := box_cells HRA.out
    obtain ⟨⟨hr1, hr2⟩, hr3, hr4⟩ := box_cells HRB.out
    have hlt := (Array.getElem?_eq_some_iff.1 HRB.out).1
    have HSZ := Lib.hid (show w.heap.size < w2.heap.size ∧ w.heap.size + 1 < w2.heap.size from ⟨by omega, hlt⟩)
    have hb3 := (Below.refl w2.heap.size w2).alloc (Nat.le_refl _) (.cells #[] 5)
    have hown0 : (w2.alloc (.cells #[] 5)).ownsRow w2.heap.size 5 1 (.slice (some ⟨w2.heap.size, 0, none⟩) 0 0) 0 [] := owns_empty (heap_alloc_new w2 _) (by decide) rfl _ (Nat.le_refl _)
    have HO0 := Lib.hid hown0
    have HB3 := Lib.hid hb3
    obtain ⟨b, off, va, vn, vc, hac, hcl, hvn, hva⟩ := sect_shape (HD.out.below HB2.out).1 i (by rw [HSN.out]; exact hi)
    subst hac
    rw [← HLL.out] at hvn hva
    rw [HL.out] at hvn
    subst hvn
    have HVA := Lib.hid (hva.below hb3).2
    have hx5 := kept hx1 hb3
    have hcl2 := kept hcl hb3
    have i1 : (0 : Int) ≤ (i : Int) := by omega
    have i2 : (i : Int) < (n : Int) := by omega
    have j1 : (0 : Int) ≤ (j : Int) := by omega
    clear hown0 hb3 hr1 hr2 hr3 hr4 hx3 hx4 hva
    obtain ⟨j0, hji, hj0, hj1, hj2⟩ := info_parts infoS
    obtain ⟨i0, hii, hi0, hi1, hi2⟩ := info_parts info8
    go_wp2_with (at_builtin; refine wpList_append_isArg _ rfl _ _ 35 rfl w2.heap.size 5 i0 (.int .u8 0) Try.underlying35 hii hi0 hi1 hi2 rfl _ _ _ rfl HO0.out _ L rfl HVA.out ?c2 ?c3 ?_)
    case c2 => rw [HL.out]; decide
    case c3 => simp
    intro out1 w3 hown1 hgrow1
    rw [HL.out] at hown1
    obtain ⟨g, cap, cur, rfl, hgB, hgh, _, _⟩ := owns_shape hown1 (by decide)
    have HB23 := Lib.hid (HB3.out.grown hgrow1 (by simp) (fun k hk => (HO0.out.lt k hk).1))
    have HO1 := Lib.hid hown1
    have hcg : w3.cell? ⟨g, j, none⟩ = some (.int .u8 (u.toNat : Nat)) := by rw [hown1.cellAt j (by omega), ← HU.out]; simp [byteCells]; rw [List.getElem?_eq_getElem (by rw [HL.out]; omega)]; simp
    have hfg : w3.frozen? ⟨g, j, none⟩ = false := hown1.frozenAt j
    have hg3 : g < w3.heap.size := (Array.getElem?_eq_some_iff.1 hgh).1
    have HG := Lib.hid (show w2.heap.size ≤ g ∧ g < w3.heap.size from ⟨hgB, hg3⟩)
    have HB35 := Lib.hid ((HB23.out.setCell (p := ⟨g, j, none⟩) hgB (.int .u8 (x.toNat : Nat))).alloc (by simpa using HB23.out.size) (.cells #[] 35))
    have HB45 := Lib.hid ((Below.refl (w3.setCell ⟨g, j, none⟩ (.int .u8 (x.toNat : Nat))).heap.size (w3.setCell ⟨g, j, none⟩ (.int .u8 (x.toNat : Nat)))).alloc (Nat.le_refl _) (.cells #[] 35))
    have HO5 := Lib.hid (ownsRow_below (own_byte HO1.out x) HB45.out)
    have HS0 := Lib.hid (show ((w3.setCell ⟨g, j, none⟩ (.int .u8 (x.toNat : Nat))).alloc (.cells #[] 35)).ownsRow w3.heap.size 35 1 (.slice (some ⟨w3.heap.size, 0, none⟩) 0 0) 0 [] from owns_empty (by simpa using heap_alloc_new (w3.setCell ⟨g, j, none⟩ (.int .u8 (x.toNat : Nat))) (.cells #[] 35)) (by decide) rfl _ (Nat.le_refl _))
    have HH := Lib.hid ((HVH.out.below HB2.out).below HB35.out)
    have hx6 := kept hx1 HB23.out
    have hx7 := kept hx1 (HB23.out.setCell (p := ⟨g, j, none⟩) hgB (.int .u8 (x.toNat : Nat)))
    have hx8 := kept hx1 HB35.out
    have hne1 : g ≠ w.heap.size := by have := HSZ.out.1; omega
    have hne2 : w.heap.size ≠ g := fun e => hne1 e.symm
    have hxx := HXX.out
    clear hown1 hgrow1 hgB hgh hx1 hx2 hx5 hcl hcl2 hg3
    go_wp2_with (at_builtin; refine wpList_append_held _ rfl _ _ 22 rfl w3.heap.size 35 j0 (.slice none 0 0) 1 24 Try.underlying22 hji hj0 hj1 hj2 rfl (by decide) _ _ _ rfl HS0.out _ n Vs rfl HH.out ?c1 HVO.out ?c3 ?c4 ?c5 ?_)
    case c1 => rw [HVL.out, Nat.mul_one]
    case c3 => unfold maxLen; omega
    case c4 => omega
    case c5 => simp
    intro out2 w5 hown2 hgrow2
    obtain ⟨g2, cap2, cur2, rfl, hgB2, hgh2, _, _⟩ := owns_shape hown2 (by omega)
    have HO2 := Lib.hid hown2
    have HB25 := Lib.hid (HB35.out.grown hgrow2 (by have := HB23.out.size; simp; omega) (fun k hk => Nat.le_trans HB23.out.size (HS0.out.lt k hk).1))
    have HO6 := Lib.hid (owns_grown HO5.out hgrow2 (fun k hk e => by have h1 := (HS0.out.lt k hk).1; have h2 : k = g := (by simpa [Value.ownBlock] using e.symm); have := HG.out.2; omega))
    replace HRA := Lib.hid (row_keep HRA.out HB25.out)
    replace HRB := Lib.hid (row_keep HRB.out HB25.out)
    have HBW := Lib.hid (HB2.out.trans (HB25.out.mono HB2.out.size))
    obtain ⟨v0, hv0⟩ : ∃ v, Vs[i]? = some v := ⟨Vs[i]'(by rw [HVL.out]; omega), List.getElem?_eq_getElem _⟩
    have hc2 : w5.cell? ⟨g2, i, none⟩ = some v0 := by rw [hown2.cellAt i (by omega)]; simpa using hv0
    have hf2 : w5.frozen? ⟨g2, i, none⟩ = false := hown2.frozenAt i
    have hlt2 := World.block_lt_of_cell? _ _ hc2
    have hne3 : w.heap.size ≠ g2 := by have := HSZ.out.1; have := HB23.out.size; omega
    have hne4 : g2 ≠ w.heap.size := fun e => hne3 e.symm
    have hne5 : w.heap.size + 1 ≠ g2 := by have := HSZ.out.2; have := HB23.out.size; omega
    have hne6 : g2 ≠ w.heap.size + 1 := fun e => hne5 e.symm
    have HN := Lib.hid (show g ≠ g2 ∧ w3.heap.size ≤ g2 from ⟨by have := HG.out.2; omega, hgB2⟩)
    clear hown2 hgrow2 hlt hj0 hj1 hj2 hi0 hi1 hi2 hji hii hx6 hx7 hx8 hcg hfg hgB2 hgh2 hxx hv0
    obtain ⟨⟨hx1, hx2⟩, hx3, hx4⟩ := box_cells HRA.out
    obtain ⟨⟨hr1, hr2⟩, hr3, hr4⟩ := box_cells HRB.out
    have hlt := (Array.getElem?_eq_some_iff.1 HRB.out).1
    have hlt0 := (Array.getElem?_eq_some_iff.1 HRA.out).1
    go_wp2
    have hb9 := (((HBW.out.setCell (p := ⟨w.heap.size, 0, none⟩) (by show w.heap.size ≤ w.heap.size; omega) (.slice (some ⟨g2, 0, none⟩) n cap2)).setCell (p := ⟨g2, i, none⟩) (by show w.heap.size ≤ g2; have := HSZ.out.1; have := HB23.out.size; have := HN.out.2; omega) (.slice (some ⟨g, 0, none⟩) 256 cap)).setCell (p := ⟨w.heap.size + 1, 0, none⟩) (by show w.heap.size ≤ w.heap.size + 1; omega) (.slice (some ⟨g2, 0, none⟩) n cap2)).setCell (p := ⟨w.heap.size + 1, 1, none⟩) (by show w.heap.size ≤ w.heap.size + 1; omega) (.slice a1 m c1)
    have h2 := ownsRow_setCell_below (ownsRow_setCell_below ((ownsRow_setCell_below (ownsRow_base HO2.out HB23.out.size) (a := ⟨w.heap.size, 0, none⟩) (by show w.heap.size < w2.heap.size; exact HSZ.out.1) (.slice (some ⟨g2, 0, none⟩) n cap2)).stored i (.slice (some ⟨g, 0, none⟩) 256 cap)).1 (a := ⟨w.heap.size + 1, 0, none⟩) (by show w.heap.size + 1 < w2.heap.size; exact HSZ.out.2) (.slice (some ⟨g2, 0, none⟩) n cap2)) (a := ⟨w.heap.size + 1, 1, none⟩) (by show w.heap.size + 1 < w2.heap.size; exact HSZ.out.2) (.slice a1 m c1)
    have h1 := ownsRow_setCell_below (ownsRow_setCell_below (own_far (ownsRow_setCell_below HO6.out (a := ⟨w.heap.size, 0, none⟩) (by show w.heap.size < w2.heap.size; exact HSZ.out.1) (.slice (some ⟨g2, 0, none⟩) n cap2)) ⟨g2, i, none⟩ (.slice (some ⟨g, 0, none⟩) 256 cap) HN.out.1) (a := ⟨w.heap.size + 1, 0, none⟩) (by show w.heap.size + 1 < w2.heap.size; exact HSZ.out.2) (.slice (some ⟨g2, 0, none⟩) n cap2)) (a := ⟨w.heap.size + 1, 1, none⟩) (by show w.heap.size + 1 < w2.heap.size; exact HSZ.out.2) (.slice a1 m c1)
    rw [HGO.out]
    exact bodyPost_ret (v := .tuple #[.agg #[.slice (some ⟨g2, 0, none⟩) n cap2, .slice a1 m c1], .int .i64 0]) (by simp [results, Try.results21, go_sem, hr1, hr2]) rfl ⟨_, _, rfl, fun W' hb hk => ⟨sects_put HV3.out hb (by rw [HSN.out]; exact owns_keep (by simpa using h2) (fun q cur _ hc => hk q cur _ _ tne5 hc)) (isArg_of_owns (by rw [List.length_set, HL.out]; exact owns_keep h1 (fun q cur _ hc => hk q cur _ _ tne4 hc))), HD0.out.2.below hb⟩, hb9⟩
end Go.Proofs.Ytaamjpcpdlanhaa
