/- What the document's own Write answers. -/
import Derived.Test.YtaamjpcpdlanhaaDskFi
import Derived.Test.YtaamjpcpdlanhaaAppH
namespace Go.Proofs.Ytaamjpcpdlanhaa
open Go.RowKit Go.Lib

theorem writes_one {w : World} {X : List (Int × Value)} {C : List (Int × List UInt8)} (hl : X.length = C.length) (h : ∀ (i : Nat) (x : Int × Value) (y : Int × List UInt8), X[i]? = some x → C[i]? = some y → x.1 = y.1 ∧ IsArg w x.2 y.2) : ∀ u ∈ wcells X, u.oneCell' = true := by
  intro u hu
  obtain ⟨x, hx, hu⟩ := List.mem_flatMap.1 hu
  obtain ⟨i, hi, rfl⟩ := List.mem_iff_getElem.1 hx
  obtain ⟨_, _, _, h1, _⟩ := (h i _ _ (List.getElem?_eq_getElem hi) (List.getElem?_eq_getElem (by omega))).2.shape3
  rcases List.mem_cons.1 hu with rfl | hu
  · rfl
  · obtain rfl : u = X[i].2 := by simpa using hu
    rw [h1]
    rfl
theorem write_ways (S : List (List UInt8)) (C : List (Int × List UInt8)) (z : Int) (l : List UInt8) :
    (chkB S C = false ∧ wFault S C z l.length = 3) ∨ (chkB S C = true ∧ ¬ (0 ≤ z ∧ z < (S.length : Int)) ∧ wFault S C z l.length = 50) ∨ (chkB S C = true ∧ (0 ≤ z ∧ z < (S.length : Int)) ∧ l.length ≠ 256 ∧ wFault S C z l.length = 2) ∨ (chkB S C = true ∧ (0 ≤ z ∧ z < (S.length : Int)) ∧ l.length = 256 ∧ C.length = 512 ∧ wFault S C z l.length = 4) ∨ (chkB S C = true ∧ (0 ≤ z ∧ z < (S.length : Int)) ∧ l.length = 256 ∧ C.length < 512 ∧ wFault S C z l.length = 0) := by
  unfold wFault
  rcases dFault_cases S C z with ⟨h0, h1⟩ | ⟨h0, h1, h2⟩ | ⟨h0, h1, h2, h3⟩
  · refine .inl ⟨h1, ?_⟩
    rw [h0]; rfl
  · refine .inr (.inl ⟨h1, h2, ?_⟩)
    rw [h0]; rfl
  · rw [h0, if_pos rfl]
    have h5 := (chk_true.1 h1).2.1
    by_cases h4 : l.length = 256
    · rw [if_pos h4]
      by_cases h6 : C.length = 512
      · rw [if_pos h6]
        exact .inr (.inr (.inr (.inl ⟨h1, ⟨h2, h3⟩, h4, h6, rfl⟩)))
      · rw [if_neg h6]
        exact .inr (.inr (.inr (.inr ⟨h1, ⟨h2, h3⟩, h4, by omega, rfl⟩)))
    · rw [if_neg h4]
      exact .inr (.inr (.inl ⟨h1, ⟨h2, h3⟩, h4, rfl⟩))
theorem held_one {w : World} {u v : Value} {t : TypeId} : Held (w.alloc (.cells #[u, v] t)) (.slice (some ⟨w.heap.size, 0, none⟩) 1 1) 1 [u, v] := by
  obtain ⟨h1, h2⟩ := box2_new w u v t (0, 0)
  refine .inr ⟨_, 1, rfl, Nat.le_refl _, by decide, fun j x hx => ?_⟩
  rw [Addr.add_lit]
  match j with
  | 0 => simp at hx; subst hx; exact h1
  | 1 => simp at hx; subst hx; exact h2
  | j + 2 => simp at hx
theorem own_form {w : World} {base : Nat} {t : TypeId} {size : Nat} {v : Value} {n : Nat} {cs : List Value} (h : w.ownsRow base t size v n cs) : ∃ a k c, v = .slice a k c := by
  rcases h.2 with ⟨rfl, _⟩ | ⟨g, cap, cur, rfl, _⟩
  · exact ⟨_, _, _, rfl⟩
  · exact ⟨_, _, _, rfl⟩
theorem writes_put {w W : World} {X : List (Int × Value)} {C : List (Int × List UInt8)} {z : Int} {l : List UInt8} {B : Nat} {v V : Value} (h : X.length = C.length ∧ ∀ (i : Nat) (x : Int × Value) (y : Int × List UInt8), X[i]? = some x → C[i]? = some y → x.1 = y.1 ∧ IsArg w x.2 y.2) (hb : Below w.heap.size w W) (ho : W.ownsRow B 55 2 v (X.length + 1) (wcells X ++ [.int .i64 z, V])) (ha : IsArg W V l) : Writes W v (C ++ [(z, l)]) := by
  refine ⟨X ++ [(z, V)], by simp [h.1], ?_, fun i x y hx hy => ?_⟩
  · have h2 := held_of_owns ho
    rw [wcells_append]
    simpa [wcells, h.1] using h2
  · by_cases hi : i < X.length
    · rw [List.getElem?_append_left hi] at hx
      rw [List.getElem?_append_left (by rw [← h.1]; exact hi)] at hy
      exact ⟨(h.2 i x y hx hy).1, (h.2 i x y hx hy).2.below hb⟩
    · have hi2 := (List.getElem?_eq_some_iff.1 hx).1
      simp at hi2
      obtain rfl : i = X.length := by omega
      simp at hx
      rw [h.1] at hy
      simp at hy
      subst hx
      subst hy
      exact ⟨rfl, ha⟩

set_option maxHeartbeats 4000000 in
set_option maxRecDepth 100000 in
theorem refWrite_firm (s c : Value) (S : List (List UInt8)) (C : List (Int × List UInt8)) (w0 : World) (hd0 : IsDisk w0 s c S C) (z : Int) (V : Value) (l : List UInt8) (hV0 : IsArg w0 V l) (w : World) (hw : Below w0.heap.size w0 w) :
    Calls Try.prog 17 #[.agg #[s, c], .int .i64 z, V] w fun e w' => ∃ sv cv, e = .returned (.tuple #[.agg #[sv, cv], .int .i64 (wFault S C z l.length)]) ∧ Firm w0 w' sv cv S (writeOf S C z l) ∧ Below w.heap.size w w' := by
  have HD0 := Lib.hid hd0
  have hd := hd0.below hw
  have hV := hV0.below hw
  have HD := Lib.hid hd
  have HV := Lib.hid hV
  obtain ⟨X, hX1, hX20, hX3⟩ := hd0.2
  have hX2 := hX20.below hw
  obtain ⟨a, ca, a1, c1, rfl, rfl, _, _⟩ := hd.shape
  obtain ⟨va, vn, vc, rfl, hvn⟩ := hV.shape3
  obtain ⟨n, hSn⟩ : ∃ n, n = S.length := ⟨_, rfl⟩
  obtain ⟨m, hCm⟩ : ∃ m, m = C.length := ⟨_, rfl⟩
  have hways := write_ways S C z l
  rw [← hSn, ← hCm] at HD HD0 hways
  rw [← hvn] at hways
  rw [← hSn, ← hCm, ← hvn]
  rw [← hCm] at hX2 hX1
  have HB0 := Lib.hid (((Below.refl w.heap.size w).alloc (Nat.le_refl _) (.cells #[.slice a n ca, .slice a1 m c1] 25)).alloc (by simp) (.cells #[.slice none 0 0, .slice none 0 0] 25))
  have HXO := Lib.hid (writes_one (by rw [hX1, hCm]) hX3)
  have HXL := Lib.hid (show (wcells X).length = m * 2 by rw [wcells_length, hX1])
  have HXH := Lib.hid hX2
  have HX3 := Lib.hid (show X.length = C.length ∧ _ from ⟨by rw [hX1, hCm], hX3⟩)
  have HXN := Lib.hid hX1
  have HVN := Lib.hid hvn
  clear hd hd0 hV0 hw hX20 hSn hCm hX1 hX2 hX3 hV hvn
  rcases hways with ⟨hk, hF⟩ | ⟨hk, hz, hF⟩ | ⟨hk, hz, h256, hF⟩ | ⟨hk, hz, h256, hm, hF⟩ | ⟨hk, hz, h256, hm, hF⟩
  · rw [hF, writeOf_other (by rw [← HVN.out, hF]; decide)]
    have HK := Lib.hid hk
    clear hk hF
    go_enter Try.func17, Try.ntmps17
    go_wp2_with fail
    refine (refCheck_any _ _ _ _ _ (HD.out.below HB0.out) false HK.out).mono ?_
    rintro e w1 ⟨rfl, hb⟩
    have HB1 := Lib.hid (HB0.out.trans (hb.mono (by simp; omega)))
    obtain ⟨hrow0, hrow1, hlt1⟩ := boxes_rows hb
    have HRA := Lib.hid hrow0
    have HRB := Lib.hid hrow1
    clear hb hrow0 hrow1 hlt1
    obtain ⟨⟨hx1, hx2⟩, hx3, hx4⟩ := box_cells HRA.out
    obtain ⟨⟨hr1, hr2⟩, hr3, hr4⟩ := box_cells HRB.out
    have hlt := (Array.getElem?_eq_some_iff.1 HRB.out).1
    go_wp2
    have hb9 := (HB1.out.setCell (p := ⟨w.heap.size + 1, 0, none⟩) (by show w.heap.size ≤ w.heap.size + 1; omega) (.slice a n ca)).setCell (p := ⟨w.heap.size + 1, 1, none⟩) (by show w.heap.size ≤ w.heap.size + 1; omega) (.slice a1 m c1)
    exact bodyPost_ret (v := .tuple #[.agg #[.slice a n ca, .slice a1 m c1], .int .i64 3]) (by simp [results, Try.results17, go_sem, hr1, hr2]) rfl ⟨_, _, rfl, firm_came HD0.out, hb9⟩
  · rw [hF, writeOf_other (by rw [← HVN.out, hF]; decide)]
    have HK := Lib.hid hk
    have HQ := Lib.hid (decide_eq_false hz).symm
    clear hk hF hz
    go_enter Try.func17, Try.ntmps17
    go_wp2_with fail
    refine (refCheck_any _ _ _ _ _ (HD.out.below HB0.out) true HK.out).mono ?_
    rintro e w1 ⟨rfl, hb⟩
    have HB1 := Lib.hid (HB0.out.trans (hb.mono (by simp; omega)))
    obtain ⟨hrow0, hrow1, hlt1⟩ := boxes_rows hb
    have HRA := Lib.hid hrow0
    have HRB := Lib.hid hrow1
    clear hb hrow0 hrow1 hlt1
    obtain ⟨⟨hx1, hx2⟩, hx3, hx4⟩ := box_cells HRA.out
    obtain ⟨⟨hr1, hr2⟩, hr3, hr4⟩ := box_cells HRB.out
    have hlt := (Array.getElem?_eq_some_iff.1 HRB.out).1
    go_wp2_with fail
    refine (refHas_any _ _ _ _ _ _ _ false HQ.out _).mono ?_
    rintro e w2 ⟨rfl, hb⟩
    have HB2 := Lib.hid (HB1.out.trans (hb.mono HB1.out.size))
    replace HRA := Lib.hid (row_keep HRA.out hb)
    replace HRB := Lib.hid (row_keep HRB.out hb)
    clear hb hx1 hx2 hx3 hx4 hr1 hr2 hr3 hr4 hlt
    obtain ⟨⟨hx1, hx2⟩, hx3, hx4⟩ := box_cells HRA.out
    obtain ⟨⟨hr1, hr2⟩, hr3, hr4⟩ := box_cells HRB.out
    have hlt := (Array.getElem?_eq_some_iff.1 HRB.out).1
    go_wp2
    have hb9 := (HB2.out.setCell (p := ⟨w.heap.size + 1, 0, none⟩) (by show w.heap.size ≤ w.heap.size + 1; omega) (.slice a n ca)).setCell (p := ⟨w.heap.size + 1, 1, none⟩) (by show w.heap.size ≤ w.heap.size + 1; omega) (.slice a1 m c1)
    exact bodyPost_ret (v := .tuple #[.agg #[.slice a n ca, .slice a1 m c1], .int .i64 50]) (by simp [results, Try.results17, go_sem, hr1, hr2]) rfl ⟨_, _, rfl, firm_came HD0.out, hb9⟩
  · rw [hF, writeOf_other (by rw [← HVN.out, hF]; decide)]
    have HK := Lib.hid hk
    have HQ := Lib.hid (decide_eq_true hz).symm
    have h3 : ¬ ((vn : Int) = 256) := by omega
    clear hk hF hz h256
    go_enter Try.func17, Try.ntmps17
    go_wp2_with fail
    refine (refCheck_any _ _ _ _ _ (HD.out.below HB0.out) true HK.out).mono ?_
    rintro e w1 ⟨rfl, hb⟩
    have HB1 := Lib.hid (HB0.out.trans (hb.mono (by simp; omega)))
    obtain ⟨hrow0, hrow1, hlt1⟩ := boxes_rows hb
    have HRA := Lib.hid hrow0
    have HRB := Lib.hid hrow1
    clear hb hrow0 hrow1 hlt1
    obtain ⟨⟨hx1, hx2⟩, hx3, hx4⟩ := box_cells HRA.out
    obtain ⟨⟨hr1, hr2⟩, hr3, hr4⟩ := box_cells HRB.out
    have hlt := (Array.getElem?_eq_some_iff.1 HRB.out).1
    go_wp2_with fail
    refine (refHas_any _ _ _ _ _ _ _ true HQ.out _).mono ?_
    rintro e w2 ⟨rfl, hb⟩
    have HB2 := Lib.hid (HB1.out.trans (hb.mono HB1.out.size))
    replace HRA := Lib.hid (row_keep HRA.out hb)
    replace HRB := Lib.hid (row_keep HRB.out hb)
    clear hb hx1 hx2 hx3 hx4 hr1 hr2 hr3 hr4 hlt
    obtain ⟨⟨hx1, hx2⟩, hx3, hx4⟩ := box_cells HRA.out
    obtain ⟨⟨hr1, hr2⟩, hr3, hr4⟩ := box_cells HRB.out
    have hlt := (Array.getElem?_eq_some_iff.1 HRB.out).1
    go_wp2
    have hb9 := (HB2.out.setCell (p := ⟨w.heap.size + 1, 0, none⟩) (by show w.heap.size ≤ w.heap.size + 1; omega) (.slice a n ca)).setCell (p := ⟨w.heap.size + 1, 1, none⟩) (by show w.heap.size ≤ w.heap.size + 1; omega) (.slice a1 m c1)
    exact bodyPost_ret (v := .tuple #[.agg #[.slice a n ca, .slice a1 m c1], .int .i64 2]) (by simp [results, Try.results17, go_sem, hr1, hr2]) rfl ⟨_, _, rfl, firm_came HD0.out, hb9⟩
  · rw [hF, writeOf_other (by rw [← HVN.out, hF]; decide)]
    have HK := Lib.hid hk
    have HQ := Lib.hid (decide_eq_true hz).symm
    clear hk hF hz
    subst h256
    subst hm
    go_enter Try.func17, Try.ntmps17
    go_wp2_with fail
    refine (refCheck_any _ _ _ _ _ (HD.out.below HB0.out) true HK.out).mono ?_
    rintro e w1 ⟨rfl, hb⟩
    have HB1 := Lib.hid (HB0.out.trans (hb.mono (by simp; omega)))
    obtain ⟨hrow0, hrow1, hlt1⟩ := boxes_rows hb
    have HRA := Lib.hid hrow0
    have HRB := Lib.hid hrow1
    clear hb hrow0 hrow1 hlt1
    obtain ⟨⟨hx1, hx2⟩, hx3, hx4⟩ := box_cells HRA.out
    obtain ⟨⟨hr1, hr2⟩, hr3, hr4⟩ := box_cells HRB.out
    have hlt := (Array.getElem?_eq_some_iff.1 HRB.out).1
    go_wp2_with fail
    refine (refHas_any _ _ _ _ _ _ _ true HQ.out _).mono ?_
    rintro e w2 ⟨rfl, hb⟩
    have HB2 := Lib.hid (HB1.out.trans (hb.mono HB1.out.size))
    replace HRA := Lib.hid (row_keep HRA.out hb)
    replace HRB := Lib.hid (row_keep HRB.out hb)
    clear hb hx1 hx2 hx3 hx4 hr1 hr2 hr3 hr4 hlt
    obtain ⟨⟨hx1, hx2⟩, hx3, hx4⟩ := box_cells HRA.out
    obtain ⟨⟨hr1, hr2⟩, hr3, hr4⟩ := box_cells HRB.out
    have hlt := (Array.getElem?_eq_some_iff.1 HRB.out).1
    go_wp2
    have hb9 := (HB2.out.setCell (p := ⟨w.heap.size + 1, 0, none⟩) (by show w.heap.size ≤ w.heap.size + 1; omega) (.slice a n ca)).setCell (p := ⟨w.heap.size + 1, 1, none⟩) (by show w.heap.size ≤ w.heap.size + 1; omega) (.slice a1 512 c1)
    exact bodyPost_ret (v := .tuple #[.agg #[.slice a n ca, .slice a1 512 c1], .int .i64 4]) (by simp [results, Try.results17, go_sem, hr1, hr2]) rfl ⟨_, _, rfl, firm_came HD0.out, hb9⟩
  · rw [hF, writeOf_zero (by rw [← HVN.out, hF])]
    have HK := Lib.hid hk
    have HQ := Lib.hid (decide_eq_true hz).symm
    have HL := Lib.hid (show l.length = 256 by rw [← HVN.out, h256])
    have h4 : decide ((512 : Int) ≤ (m : Nat)) = false := decide_eq_false (by omega)
    clear hk hF hz
    subst h256
    go_enter Try.func17, Try.ntmps17
    go_wp2_with fail
    refine (refCheck_any _ _ _ _ _ (HD.out.below HB0.out) true HK.out).mono ?_
    rintro e w1 ⟨rfl, hb⟩
    have HB1 := Lib.hid (HB0.out.trans (hb.mono (by simp; omega)))
    obtain ⟨hrow0, hrow1, hlt1⟩ := boxes_rows hb
    have HRA := Lib.hid hrow0
    have HRB := Lib.hid hrow1
    clear hb hrow0 hrow1 hlt1
    obtain ⟨⟨hx1, hx2⟩, hx3, hx4⟩ := box_cells HRA.out
    obtain ⟨⟨hr1, hr2⟩, hr3, hr4⟩ := box_cells HRB.out
    have hlt := (Array.getElem?_eq_some_iff.1 HRB.out).1
    go_wp2_with fail
    refine (refHas_any _ _ _ _ _ _ _ true HQ.out _).mono ?_
    rintro e w2 ⟨rfl, hb⟩
    have HB2 := Lib.hid (HB1.out.trans (hb.mono HB1.out.size))
    replace HRA := Lib.hid (row_keep HRA.out hb)
    replace HRB := Lib.hid (row_keep HRB.out hb)
    clear hb hx1 hx2 hx3 hx4 hr1 hr2 hr3 hr4 hlt
    obtain ⟨⟨hx1, hx2⟩, hx3, hx4⟩ := box_cells HRA.out
    obtain ⟨⟨hr1, hr2⟩, hr3, hr4⟩ := box_cells HRB.out
    have hlt := (Array.getElem?_eq_some_iff.1 HRB.out).1
    have HSZ := Lib.hid (show w.heap.size < w2.heap.size ∧ w.heap.size + 1 < w2.heap.size from ⟨by omega, hlt⟩)
    have hb3 := (Below.refl w2.heap.size w2).alloc (Nat.le_refl _) (.cells #[] 55)
    have hown0 : (w2.alloc (.cells #[] 55)).ownsRow w2.heap.size 55 2 (.slice (some ⟨w2.heap.size, 0, none⟩) 0 0) 0 [] := owns_empty (heap_alloc_new w2 _) (by decide) rfl _ (Nat.le_refl _)
    have HO0 := Lib.hid hown0
    have HB3 := Lib.hid hb3
    have HC1 := Lib.hid ((HXH.out.below HB2.out).below hb3)
    have hx5 := kept hx2 hb3
    clear hown0 hb3 hr1 hr2 hr3 hr4 hx3 hx4 hx1
    obtain ⟨j0, hji, hj0, hj1, hj2⟩ := info_parts infoW
    obtain ⟨i0, hii, hi0, hi1, hi2⟩ := info_parts info8
    go_wp2_with (at_builtin; refine wpList_append_held _ rfl _ _ 23 rfl w2.heap.size 55 j0 (.agg #[.int .i64 0, .slice none 0 0]) 2 32 Try.underlying23 hji hj0 hj1 hj2 rfl (by decide) _ _ _ rfl HO0.out _ m (wcells X) rfl HC1.out HXL.out HXO.out ?c3 ?c4 ?c5 ?_)
    case c3 => unfold maxLen; omega
    case c4 => omega
    case c5 => simp
    intro out1 w3 hown1 hgrow1
    obtain ⟨oa, on, oc, rfl⟩ := own_form hown1
    have HO1 := Lib.hid hown1
    have HB23 := Lib.hid (HB3.out.grown hgrow1 (by simp) (fun k hk => (HO0.out.lt k hk).1))
    have HB34 := Lib.hid ((Below.refl w3.heap.size w3).alloc (Nat.le_refl _) (.cells #[] 5))
    have HU0 := Lib.hid (show (w3.alloc (.cells #[] 5)).ownsRow w3.heap.size 5 1 (.slice (some ⟨w3.heap.size, 0, none⟩) 0 0) 0 [] from owns_empty (heap_alloc_new w3 _) (by decide) rfl _ (Nat.le_refl _))
    have HV3 := Lib.hid (((HV.out.below HB2.out).below HB23.out).below HB34.out).2
    clear hown1 hgrow1 hx2 hx5
    go_wp2_with (at_builtin; refine wpList_append_isArg _ rfl _ _ 35 rfl w3.heap.size 5 i0 (.int .u8 0) Try.underlying35 hii hi0 hi1 hi2 rfl _ _ _ rfl HU0.out _ l rfl HV3.out ?c2 ?c3 ?_)
    case c2 => rw [HL.out]; decide
    case c3 => simp
    intro out2 w4 hown2 hgrow2
    obtain ⟨ua, un, uc, rfl⟩ := own_form hown2
    have HB36 := Lib.hid (HB34.out.grown hgrow2 (by simp) (fun k hk => (HU0.out.lt k hk).1))
    have HO2 := Lib.hid hown2
    have HB45 := Lib.hid ((Below.refl w4.heap.size w4).alloc (Nat.le_refl _) (.cells #[.int .i64 z, .slice ua un uc] 55))
    have HO14 := Lib.hid (ownsRow_below (ownsRow_below HO1.out HB36.out) HB45.out)
    have HO24 := Lib.hid (ownsRow_below HO2.out HB45.out)
    have HH := Lib.hid (held_one (w := w4) (u := .int .i64 z) (v := .slice ua un uc) (t := 55))
    have HS4 := Lib.hid (show w2.heap.size ≤ w4.heap.size from Nat.le_trans HB23.out.size HB36.out.size)
    clear hown2 hgrow2
    go_wp2_with (at_builtin; refine wpList_append_held _ rfl _ _ 23 rfl w2.heap.size 55 j0 (.agg #[.int .i64 0, .slice none 0 0]) 2 32 Try.underlying23 hji hj0 hj1 hj2 rfl (by decide) _ _ _ rfl HO14.out _ 1 [.int .i64 z, .slice ua un uc] rfl HH.out rfl ?c2 ?c3 ?c4 ?c5 ?_)
    case c2 => intro u hu; rcases List.mem_cons.1 hu with rfl | hu <;> first | exact rfl | (rcases List.mem_cons.1 hu with rfl | hu <;> first | exact rfl | exact absurd hu (by simp))
    case c3 => unfold maxLen; omega
    case c4 => omega
    case c5 => simp; exact Nat.le_succ_of_le HS4.out
    intro out3 w5 hown3 hgrow3
    obtain ⟨ta, tn, tc, rfl⟩ := own_form hown3
    have HO3 := Lib.hid hown3
    have HO25 := Lib.hid (owns_grown HO24.out hgrow3 (fun k hk e => by have h1 := (HO1.out.lt k hk).2; have h2 := (HO2.out.lt k e).1; omega))
    have HB25 := Lib.hid ((((HB23.out.trans (HB36.out.mono HB23.out.size)).trans (HB45.out.mono HS4.out))).grown hgrow3 (by simp; exact Nat.le_succ_of_le HS4.out) (fun k hk => (HO1.out.lt k hk).1))
    replace HRA := Lib.hid (row_keep HRA.out HB25.out)
    replace HRB := Lib.hid (row_keep HRB.out HB25.out)
    have HBW := Lib.hid (HB2.out.trans (HB25.out.mono HB2.out.size))
    clear hown3 hgrow3 hlt hj0 hj1 hj2 hi0 hi1 hi2 hji hii
    obtain ⟨⟨hx1, hx2⟩, hx3, hx4⟩ := box_cells HRA.out
    obtain ⟨⟨hr1, hr2⟩, hr3, hr4⟩ := box_cells HRB.out
    have hlt := (Array.getElem?_eq_some_iff.1 HRB.out).1
    skip
    go_wp2
    have hb9 := ((HBW.out.setCell (p := ⟨w.heap.size, 1, none⟩) (by show w.heap.size ≤ w.heap.size; omega) (.slice ta tn tc)).setCell (p := ⟨w.heap.size + 1, 0, none⟩) (by show w.heap.size ≤ w.heap.size + 1; omega) (.slice a n ca)).setCell (p := ⟨w.heap.size + 1, 1, none⟩) (by show w.heap.size ≤ w.heap.size + 1; omega) (.slice ta tn tc)
    have h3 := ownsRow_setCell_below (ownsRow_setCell_below (ownsRow_setCell_below HO3.out (a := ⟨w.heap.size, 1, none⟩) (by show w.heap.size < w2.heap.size; exact HSZ.out.1) (.slice ta tn tc)) (a := ⟨w.heap.size + 1, 0, none⟩) (by show w.heap.size + 1 < w2.heap.size; exact HSZ.out.2) (.slice a n ca)) (a := ⟨w.heap.size + 1, 1, none⟩) (by show w.heap.size + 1 < w2.heap.size; exact HSZ.out.2) (.slice ta tn tc)
    have h2 := ownsRow_setCell_below (ownsRow_setCell_below (ownsRow_setCell_below (ownsRow_base HO25.out HB23.out.size) (a := ⟨w.heap.size, 1, none⟩) (by show w.heap.size < w2.heap.size; exact HSZ.out.1) (.slice ta tn tc)) (a := ⟨w.heap.size + 1, 0, none⟩) (by show w.heap.size + 1 < w2.heap.size; exact HSZ.out.2) (.slice a n ca)) (a := ⟨w.heap.size + 1, 1, none⟩) (by show w.heap.size + 1 < w2.heap.size; exact HSZ.out.2) (.slice ta tn tc)
    exact bodyPost_ret (v := .tuple #[.agg #[.slice a n ca, .slice ta tn tc], .int .i64 0]) (by simp [results, Try.results17, go_sem, hr1, hr2]) rfl ⟨_, _, rfl, fun W' hb hk => ⟨HD0.out.1.below hb, writes_put HX3.out hb (by rw [HXN.out]; exact owns_keep h3 (fun q cur _ hc => hk q cur _ _ tne6 hc)) (isArg_of_owns (owns_keep (by simpa using h2) (fun q cur _ hc => hk q cur _ _ tne4 hc)))⟩, hb9⟩
end Go.Proofs.Ytaamjpcpdlanhaa
