/- What disk.Tamper answers; what was there stays. -/
import Derived.Test.YtaamjpcpdlanhaaDskV
import Derived.Laws.BitsAllLaws
namespace Go.Proofs.Ytaamjpcpdlanhaa
open Go.RowKit Go.Lib

theorem tamperOf_zero {S : List (List UInt8)} {C : List (Int × List UInt8)} {z p : Int} (y : UInt8) (h : tFault S C z p = 0) : tamperOf S C z p y = S.set z.toNat ((S.getD z.toNat []).set p.toNat (((S.getD z.toNat []).getD p.toNat 0) ^^^ y)) := by rw [tamperOf, if_pos h]
theorem tamperOf_other {S : List (List UInt8)} {C : List (Int × List UInt8)} {z p : Int} (y : UInt8) (h : tFault S C z p ≠ 0) : tamperOf S C z p y = S := by rw [tamperOf, if_neg h]
theorem xor_byte (a b : UInt8) : bits BinOp.xor IntKind.u8 ((a.toNat : Nat) : Int) ((b.toNat : Nat) : Int) = (((a ^^^ b).toNat : Nat) : Int) := by
  rw [u8_xor_nat _ _ a.toNat_lt b.toNat_lt, UInt8.toNat_xor]

/-- One byte of one sector of one's own. -/
theorem OwnSects.byte {B M : Nat} {W : World} {v : Value} {S : List (List UInt8)} (h : OwnSects B M W v S) (i p : Nat) (hi : i < S.length) (hp : p < (S.getD i []).length) :
    ∃ g cap gi ci, v = .slice (some ⟨g, 0, none⟩) S.length cap ∧ B ≤ gi ∧ gi < M ∧ W.cell? ⟨g, i, none⟩ = some (.slice (some ⟨gi, 0, none⟩) (S.getD i []).length ci) ∧ W.cell? ⟨gi, p, none⟩ = some (.int .u8 ((S.getD i []).getD p 0).toNat) ∧ W.frozen? ⟨gi, p, none⟩ = false ∧
      ∀ y : UInt8, OwnSects B M (W.setCell ⟨gi, p, none⟩ (.int .u8 y.toNat)) v (S.set i ((S.getD i []).set p y)) := by
  obtain ⟨xs, h1, h2, h3, h4⟩ := h
  obtain ⟨g, cap, cur, rfl, hg, hh, hnc, hcm⟩ := owns_shape h1 (by omega)
  have hxl : i < xs.length := by have := h1.1; omega
  have hx : xs[i]? = some (xs[i]'hxl) := List.getElem?_eq_getElem _
  have h5 := h2.1 i _ hi hx
  obtain ⟨gi, ci, cu, hV, hgi, hhi, hnci, hcmi⟩ := owns_shape h5 (by omega)
  rw [hV] at h5 hx
  refine ⟨g, cap, gi, ci, rfl, hgi, h3 i _ gi hi hx rfl, ?_, ?_, h5.frozenAt p, fun y => ?_⟩
  · rw [h1.cellAt i (by omega)]
    exact hx
  · rw [h5.cellAt p (by omega)]
    generalize S.getD i [] = L at hp
    simp [byteCells, hp]
  · have hne : g ≠ gi := fun e => by
      rw [e, hhi] at hh
      injection hh with hh
      injection hh with _ hh _
      exact absurd hh (by decide)
    refine ⟨xs, ?_, ⟨fun j V hj hVj => ?_, fun j k V V' q q' hjk hk => h2.2 j k V V' q q' hjk (by rwa [List.length_set] at hk)⟩, fun j V q hj => h3 j V q (by rwa [List.length_set] at hj), h4⟩
    · rw [List.length_set]
      exact owns_keep h1 fun k cur hk hc => by
        have : k = g := by simpa [Value.ownBlock] using hk.symm
        subst this
        rw [Below.heap_setCell _ _ _ _ hne]
        exact hc
    · rw [List.length_set] at hj
      by_cases he : j = i
      · subst he
        rw [hx] at hVj
        cases hVj
        have h6 : (S.set j ((S.getD j []).set p y)).getD j [] = (S.getD j []).set p y := by rw [List.getD_eq_getElem?_getD, List.getElem?_set_self hi]; rfl
        rw [h6, List.length_set]
        have h7 := (h5.stored p (.int .u8 y.toNat)).1
        have h8 : (byteCells (S.getD j [])).set p (.int .u8 y.toNat) = byteCells ((S.getD j []).set p y) := by simp [byteCells, List.map_set]
        rw [h8] at h7
        exact h7
      · have h6 : (S.set i ((S.getD i []).set p y)).getD j [] = S.getD j [] := by
          rw [List.getD_eq_getElem?_getD, List.getElem?_set_ne (fun e => he e.symm), List.getD_eq_getElem?_getD]
        rw [h6]
        exact owns_keep (h2.1 j V hj hVj) fun k cur hk hc => by
          have hkg : k ≠ gi := fun e => by
            subst e
            rcases Nat.lt_or_gt_of_ne he with hlt | hgt
            · have := h2.2 j i V _ k k hlt hi hVj hx hk rfl; omega
            · have := h2.2 i j _ V k k hgt hj hx hVj rfl hk; omega
          rw [Below.heap_setCell _ _ _ _ hkg]
          exact hc

set_option maxHeartbeats 4000000 in
set_option maxRecDepth 100000 in
theorem tamper_any (s c : Value) (S : List (List UInt8)) (C : List (Int × List UInt8)) (w : World) (hd : IsDisk w s c S C) (hf : FewD S C) (z p : Int) (y : UInt8) (F : Int) (hF : tFault S C z p = F) :
    Calls Try.prog 20 #[.agg #[s, c], .int .i64 z, .int .i64 p, .int .u8 (y.toNat : Nat)] w fun e w' => ∃ sv cv, e = .returned (.tuple #[.agg #[sv, cv], .int .i64 F]) ∧ IsDisk w' sv cv (tamperOf S C z p y) C ∧ Below w.heap.size w w' := by
  have HD := Lib.hid hd
  obtain ⟨a, ca, a1, c1, rfl, rfl, _, _⟩ := hd.shape
  obtain ⟨n, hSn⟩ : ∃ n, n = S.length := ⟨_, rfl⟩
  obtain ⟨m, hCm⟩ : ∃ m, m = C.length := ⟨_, rfl⟩
  rw [← hSn, ← hCm] at HD
  rw [← hSn, ← hCm]
  have HSn := Lib.hid hSn
  have HB0 := Lib.hid (((Below.refl w.heap.size w).alloc (Nat.le_refl _) (.cells #[.slice a n ca, .slice a1 m c1] 25)).alloc (by simp) (.cells #[.slice none 0 0, .slice none 0 0] 25))
  have HFW := Lib.hid hf
  have HF := Lib.hid hF
  by_cases h0 : F = 0
  · subst h0
    obtain ⟨hk, z0, z1, p0, p1⟩ := tFault_zero hF
    obtain ⟨G, hG⟩ : ∃ G, G = tamperOf S C z p y := ⟨_, rfl⟩
    rw [← hG]
    rw [tamperOf_zero y hF] at hG
    obtain ⟨i, rfl⟩ := Int.eq_ofNat_of_zero_le z0
    obtain ⟨j, rfl⟩ := Int.eq_ofNat_of_zero_le p0
    rw [Int.toNat_natCast, Int.toNat_natCast] at hG
    obtain ⟨k1, k2, k3, k4⟩ := chk_true.1 hk
    have hi : i < n := by omega
    have hl : (S.getD i []).length = 256 := k3 _ (getD_mem S i [] (by omega))
    have hj : j < 256 := by omega
    have hn : n ≤ 256 := by omega
    have HL := Lib.hid hl
    have HG := Lib.hid hG
    obtain ⟨u, hu⟩ : ∃ u, u = (S.getD i []).getD j 0 := ⟨_, rfl⟩
    rw [← hu] at HG
    have HU := Lib.hid hu
    obtain ⟨x, hx⟩ : ∃ x, x = u ^^^ y := ⟨_, rfl⟩
    rw [← hx] at HG
    have hxx := xor_byte u y
    rw [← hx] at hxx
    have HXX := Lib.hid hxx
    clear hd hf hF hSn hCm hk z0 z1 p0 p1 k1 k2 k3 k4 hG hl hu hx hxx
    go_enter Try.func20, Try.ntmps20
    go_wp2_with fail
    refine (tamperFault_any _ _ _ _ _ (HD.out.below HB0.out) _ _ _ HF.out).mono ?_
    rintro e w1 ⟨rfl, hb⟩
    have HB1 := Lib.hid (HB0.out.trans (hb.mono (by simp; omega)))
    obtain ⟨hrow0, hrow1, hlt1⟩ := boxes_rows hb
    obtain ⟨⟨hx1, hx2⟩, _, _⟩ := box_cells hrow0
    have HRW := Lib.hid hrow1
    clear hrow0 hrow1 hb
    go_wp2_with fail
    refine (same_any _ _ S C _ (HD.out.below HB1.out) HFW.out).mono ?_
    rintro e w2 ⟨sv, cv, M, rfl, hM, ho, hw, hb⟩
    obtain ⟨g, cap, gi, ci, rfl, hgi, hgM, hc1, hc2, hfz, hstep⟩ := ho.byte i j (by rw [← HSn.out]; exact hi) (by rw [HL.out]; exact hj)
    obtain ⟨da, dn, dc, rfl⟩ := hw.writes.form
    rw [HL.out] at hc1
    rw [← HU.out] at hc2
    rw [← HSn.out] at hstep ⊢
    have HB2 := Lib.hid (HB1.out.trans (hb.mono HB1.out.size))
    have hrow := row_keep HRW.out hb
    have HRW2 := Lib.hid hrow
    obtain ⟨⟨hr1, hr2⟩, hz1, hz2⟩ := box_cells hrow
    have hlt2 : w.heap.size + 1 < w2.heap.size := Nat.lt_of_lt_of_le hlt1 hb.size
    have hg1 : w.heap.size + 1 < gi := by omega
    have hg3 : gi < w2.heap.size := World.block_lt_of_cell? _ _ hc2
    have hne1 : gi ≠ w2.heap.size := by omega
    have hne2 : w.heap.size + 1 ≠ gi := by omega
    have bN := (Below.refl w2.heap.size w2).alloc (Nat.le_refl _) (.cells #[.slice (some ⟨g, 0, none⟩) n cap, .slice da dn dc] 25)
    obtain ⟨hn1, hn2⟩ := box2_new w2 (.slice (some ⟨g, 0, none⟩) n cap) (.slice da dn dc) 25 (0, 0)
    have hd1 := kept hc1 bN
    have hd2 := kept hc2 bN
    have hd3 := (bN.frozen hg3).trans hfz
    have HST := Lib.hid (hstep x)
    have HGM := Lib.hid (show gi < M ∧ w.heap.size + 1 < M from ⟨hgM, Nat.lt_of_lt_of_le hlt1 hM⟩)
    have HWR := Lib.hid hw
    have HGI := Lib.hid hgi
    have hxx := HXX.out
    clear ho hw hb hx1 hx2 hM bN hstep hgi hgM hrow
    go_wp2
    have hrow9 := row_keep (box_put (u := .slice (some ⟨g, 0, none⟩) n cap) (v := .slice da dn dc) (row_far HRW2.out ⟨gi, j, none⟩ (.int .u8 (x.toNat : Nat)) hne2)) ((Below.refl _ _).alloc (Nat.le_refl _) (.cells #[.slice (some ⟨g, 0, none⟩) n cap, .slice da dn dc] 25))
    have hs9 := ((HST.out.set ⟨w.heap.size + 1, 0, none⟩ (.slice (some ⟨g, 0, none⟩) n cap) hlt1).set ⟨w.heap.size + 1, 1, none⟩ (.slice da dn dc) hlt1).below ((Below.refl _ _).alloc (Nat.le_refl _) (.cells #[.slice (some ⟨g, 0, none⟩) n cap, .slice da dn dc] 25))
    have hw9 := (((HWR.out.set ⟨gi, j, none⟩ (.int .u8 (x.toNat : Nat)) HGM.out.1).set ⟨w.heap.size + 1, 0, none⟩ (.slice (some ⟨g, 0, none⟩) n cap) HGM.out.2).set ⟨w.heap.size + 1, 1, none⟩ (.slice da dn dc) HGM.out.2).below ((Below.refl _ _).alloc (Nat.le_refl _) (.cells #[.slice (some ⟨g, 0, none⟩) n cap, .slice da dn dc] 25))
    have hb9 := (((HB2.out.setCell (p := ⟨gi, j, none⟩) (by show w.heap.size ≤ gi; omega) (.int .u8 (x.toNat : Nat))).setCell (p := ⟨w.heap.size + 1, 0, none⟩) (by show w.heap.size ≤ w.heap.size + 1; omega) (.slice (some ⟨g, 0, none⟩) n cap)).setCell (p := ⟨w.heap.size + 1, 1, none⟩) (by show w.heap.size ≤ w.heap.size + 1; omega) (.slice da dn dc))
    have hb9 := hb9.alloc hb9.size (.cells #[.slice (some ⟨g, 0, none⟩) n cap, .slice da dn dc] 25)
    generalize World.alloc (World.setCell (World.setCell (World.setCell w2 _ _) _ _) _ _) _ = W9 at hrow9 hs9 hw9 hb9 ⊢
    obtain ⟨⟨hq1, hq2⟩, _, _⟩ := box_cells hrow9
    rw [HG.out]
    exact bodyPost_ret (v := .tuple #[.agg #[.slice (some ⟨g, 0, none⟩) n cap, .slice da dn dc], .int .i64 0]) (by simp [results, Try.results20, go_sem, hq1, hq2]) rfl ⟨_, _, rfl, ⟨hs9.sects, hw9.writes⟩, hb9⟩
  · have hG := tamperOf_other (S := S) (C := C) (z := z) (p := p) y (by rw [hF]; exact h0)
    rw [hG]
    clear hd hf hF hSn hCm hG
    go_enter Try.func20, Try.ntmps20
    go_wp2_with fail
    refine (tamperFault_any _ _ _ _ _ (HD.out.below HB0.out) _ _ _ HF.out).mono ?_
    rintro e w1 ⟨rfl, hb⟩
    have HB1 := Lib.hid (HB0.out.trans (hb.mono (by simp; omega)))
    obtain ⟨hrow0, hrow1, hlt1⟩ := boxes_rows hb
    obtain ⟨⟨hx1, hx2⟩, _, _⟩ := box_cells hrow0
    have HRW := Lib.hid hrow1
    clear hrow0 hrow1 hb
    go_wp2_with fail
    refine (same_any _ _ S C _ (HD.out.below HB1.out) HFW.out).mono ?_
    rintro e w2 ⟨sv, cv, M, rfl, hM, ho, hw, hb⟩
    obtain ⟨sa, sn, sc, rfl⟩ := ho.sects.form
    obtain ⟨da, dn, dc, rfl⟩ := hw.writes.form
    have HB2 := Lib.hid (HB1.out.trans (hb.mono HB1.out.size))
    have hrow := row_keep HRW.out hb
    have HRW2 := Lib.hid hrow
    obtain ⟨⟨hr1, hr2⟩, hz1, hz2⟩ := box_cells hrow
    have hlt2 : w.heap.size + 1 < w2.heap.size := Nat.lt_of_lt_of_le hlt1 hb.size
    have HO := Lib.hid ho
    have HW := Lib.hid hw
    have HM := Lib.hid (show w.heap.size + 1 < M from Nat.lt_of_lt_of_le hlt1 hM)
    clear ho hw hb hx1 hx2 hM hrow
    go_wp2
    have hrow9 := row_keep (box_put (u := .slice sa sn sc) (v := .slice da dn dc) HRW2.out) ((Below.refl _ _).alloc (Nat.le_refl _) (.cells #[.slice sa sn sc, .slice da dn dc] 25))
    have hs9 := ((HO.out.set ⟨w.heap.size + 1, 0, none⟩ (.slice sa sn sc) hlt1).set ⟨w.heap.size + 1, 1, none⟩ (.slice da dn dc) hlt1).below ((Below.refl _ _).alloc (Nat.le_refl _) (.cells #[.slice sa sn sc, .slice da dn dc] 25))
    have hw9 := ((HW.out.set ⟨w.heap.size + 1, 0, none⟩ (.slice sa sn sc) HM.out).set ⟨w.heap.size + 1, 1, none⟩ (.slice da dn dc) HM.out).below ((Below.refl _ _).alloc (Nat.le_refl _) (.cells #[.slice sa sn sc, .slice da dn dc] 25))
    have hb9 := ((HB2.out.setCell (p := ⟨w.heap.size + 1, 0, none⟩) (by show w.heap.size ≤ w.heap.size + 1; omega) (.slice sa sn sc)).setCell (p := ⟨w.heap.size + 1, 1, none⟩) (by show w.heap.size ≤ w.heap.size + 1; omega) (.slice da dn dc))
    have hb9 := hb9.alloc hb9.size (.cells #[.slice sa sn sc, .slice da dn dc] 25)
    generalize World.alloc (World.setCell (World.setCell w2 _ _) _ _) _ = W9 at hrow9 hs9 hw9 hb9 ⊢
    obtain ⟨⟨hq1, hq2⟩, _, _⟩ := box_cells hrow9
    exact bodyPost_ret (v := .tuple #[.agg #[.slice sa sn sc, .slice da dn dc], .int .i64 F]) (by simp [results, Try.results20, go_sem, hq1, hq2]) rfl ⟨_, _, rfl, ⟨hs9.sects, hw9.writes⟩, hb9⟩
end Go.Proofs.Ytaamjpcpdlanhaa
