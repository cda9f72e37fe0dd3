/- What disk.Read, Flush and Crash answer; what was there stays. -/
import Derived.Test.YtaamjpcpdlanhaaDskT
namespace Go.Proofs.Ytaamjpcpdlanhaa
open Go.RowKit Go.Lib Go.Maps

theorem readOf_zero {S : List (List UInt8)} {C : List (Int × List UInt8)} {z : Int} (h : dFault S C z = 0) : readOf S C z = (settledOf S C every).getD z.toNat [] := by rw [readOf, if_pos h]
theorem readOf_other {S : List (List UInt8)} {C : List (Int × List UInt8)} {z : Int} (h : dFault S C z ≠ 0) : readOf S C z = [] := by rw [readOf, if_neg h]

set_option maxHeartbeats 2000000 in
set_option maxRecDepth 100000 in
theorem read_any (s c : Value) (S : List (List UInt8)) (C : List (Int × List UInt8)) (w : World) (hd : IsDisk w s c S C) (z : Int) (F : Int) (hF : dFault S C z = F) (L : List UInt8) (hL : readOf S C z = L) :
    Calls Try.prog 13 #[.agg #[s, c], .int .i64 z] w fun e w' => ∃ a n c, e = .returned (.tuple #[.slice a n c, .int .i64 F]) ∧ IsArg w' (.slice a n c) L ∧ n = L.length ∧ Below w.heap.size w w' := by
  have HD := Lib.hid hd
  obtain ⟨a, ca, a1, c1, rfl, rfl, _, _⟩ := hd.shape
  obtain ⟨n, hSn⟩ : ∃ n, n = S.length := ⟨_, rfl⟩
  obtain ⟨m, hCm⟩ : ∃ m, m = C.length := ⟨_, rfl⟩
  rw [← hSn, ← hCm] at HD
  rw [← hSn, ← hCm]
  have HB0 := Lib.hid ((Below.refl w.heap.size w).alloc (Nat.le_refl _) (.cells #[.slice a n ca, .slice a1 m c1] 25))
  have HF := Lib.hid hF
  have HL := Lib.hid hL
  by_cases h0 : F = 0
  · subst h0
    obtain ⟨hk, k1, k2⟩ : chkB S C = true ∧ 0 ≤ z ∧ z < (S.length : Int) := by
      rcases dFault_cases S C z with ⟨h, _⟩ | ⟨h, _⟩ | ⟨_, h⟩
      · rw [hF] at h; cases h
      · rw [hF] at h; cases h
      · exact h
    obtain ⟨i, rfl⟩ := Int.eq_ofNat_of_zero_le k1
    have HK := Lib.hid hk
    have hiS : i < S.length := by omega
    have HI := Lib.hid hiS
    have HL2 := Lib.hid (show (settledOf S C every).getD i [] = L by rw [← hL, readOf_zero hF, Int.toNat_natCast])
    have hlen : L.length = 256 := by rw [← HL2.out]; exact settled_mem hk i hiS
    have HLN := Lib.hid hlen
    clear hd hF hL hSn hCm hk k1 k2 hiS hlen
    go_enter Try.func13, Try.ntmps13
    go_wp2_with fail
    refine (fault_any _ _ _ _ _ (HD.out.below HB0.out) _ _ HF.out).mono ?_
    rintro e w1 ⟨rfl, hb⟩
    have HX1 := box2 hb
    have HB1 := Lib.hid (HB0.out.trans (hb.mono (by simp)))
    clear hb
    go_wp2_with fail
    go_region_held3 (fun w' => w'.cell? ⟨w.heap.size, 0, none⟩ = some (.slice a n ca) ∧ w'.cell? ⟨w.heap.size, 1, none⟩ = some (.slice a1 m c1)) (first | (with_reducible exact kept2 (by assumption) hb) | go_keep) (first
      | (go_at_call 34; refine (last_all _ S C _ (HD.out.below HB1.out.drew).2 (Inside.of HK.out)).mono ?_; rintro e w2 ⟨Bm, nm, D, rfl, hown, hok, hb⟩; have HM := Lib.hid hown; have HOK := Lib.hid hok; have HB2 := Lib.hid (HB1.out.drew.trans (hb.mono HB1.out.drew.size)); clear hown hok)
      | (go_at_call 33; refine (said_any _ _ S C _ (HD.out.below HB2.out) (Inside.of HK.out) every Bm nm D HM.out HOK.out i HI.out).mono ?_; rintro e w3 ⟨V, rfl, hV, hb⟩; have HV := Lib.hid hV; have HB3 := Lib.hid (HB2.out.trans (hb.mono HB2.out.size)); clear hV)
      | (go_at_call 32; refine (clone_any _ _ _ HV.out (by rw [HL2.out, HLN.out]; decide)).mono ?_; rintro e w4 ⟨r, rfl, hr, hb⟩; have HR := Lib.hid hr; have HB4 := Lib.hid (HB3.out.trans (hb.mono HB3.out.size)); clear hr))
    go_wp2
    have hr := isArg_of_owns HR.out
    rw [HL2.out] at hr
    obtain ⟨ra, rn, rc, rfl, hrn⟩ := hr.shape3
    go_ret2
    exact ⟨_, _, _, rfl, hr, hrn, HB4.out⟩
  · have hL2 : L = [] := by rw [← hL]; exact readOf_other (by rw [hF]; exact h0)
    subst hL2
    clear hd hF hL hSn hCm
    go_enter Try.func13, Try.ntmps13
    go_wp2_with fail
    refine (fault_any _ _ _ _ _ (HD.out.below HB0.out) _ _ HF.out).mono ?_
    rintro e w1 ⟨rfl, hb⟩
    have HB1 := Lib.hid (HB0.out.trans (hb.mono (by simp)))
    clear hb
    go_wp2
    go_ret2
    exact ⟨_, _, _, rfl, isArg_nil _, rfl, HB1.out⟩

/-- The box of a struct of two fields behind another one: what both hold behind a call. -/
theorem boxes {w w1 : World} {u v u' v' : Value} {s t : TypeId} (hb : Below ((w.alloc (.cells #[u, v] s)).alloc (.cells #[u', v'] t)).heap.size ((w.alloc (.cells #[u, v] s)).alloc (.cells #[u', v'] t)) w1) :
    (w1.cell? ⟨w.heap.size, 0, none⟩ = some u ∧ w1.cell? ⟨w.heap.size, 1, none⟩ = some v) ∧ (w1.cell? ⟨w.heap.size + 1, 0, none⟩ = some u' ∧ w1.cell? ⟨w.heap.size + 1, 1, none⟩ = some v') ∧
    (w1.frozen? ⟨w.heap.size + 1, 0, none⟩ = false ∧ w1.frozen? ⟨w.heap.size + 1, 1, none⟩ = false) ∧ w.heap.size + 1 < w1.heap.size := by
  have h1 := kept2 (kept2 (box2_new w u v s (0, 0)) ((Below.refl _ _).alloc (Nat.le_refl _) (.cells #[u', v'] t))) hb
  have h2 := kept2 (box2_new (w.alloc (.cells #[u, v] s)) u' v' t (0, 0)) hb
  have h3 := hb.size
  simp at h2 h3
  exact ⟨h1, h2, ⟨(hb.frozen (by simp)).trans (res_free _ _ _ _ _), (hb.frozen (by simp)).trans (res_free _ _ _ _ _)⟩, by omega⟩
theorem Sects.form {w : World} {v : Value} {S : List (List UInt8)} (h : Sects w v S) : ∃ a n c, v = .slice a n c := by
  obtain ⟨a, c, h, _⟩ := h.shape
  exact ⟨a, _, c, h⟩
theorem Writes.form {w : World} {v : Value} {C : List (Int × List UInt8)} (h : Writes w v C) : ∃ a n c, v = .slice a n c := by
  obtain ⟨a, c, h, _⟩ := h.shape
  exact ⟨a, _, c, h⟩
theorem formOf_cases (S : List (List UInt8)) (C : List (Int × List UInt8)) : (chkB S C = true ∧ formOf S C = 0 ∧ cacheOf S C = [] ∧ ∀ T, flushOf S C T = settledOf S C T) ∨ (chkB S C = false ∧ formOf S C = 3 ∧ cacheOf S C = C ∧ ∀ T, flushOf S C T = S) := by
  unfold formOf cacheOf flushOf
  cases h : chkB S C with
  | true => exact .inl ⟨rfl, if_pos rfl, if_pos rfl, fun _ => if_pos rfl⟩
  | false => exact .inr ⟨rfl, if_neg (by decide), if_neg (by decide), fun _ => if_neg (by decide)⟩

set_option maxHeartbeats 2000000 in
set_option maxRecDepth 100000 in
theorem flush_any (s c : Value) (S : List (List UInt8)) (C : List (Int × List UInt8)) (w : World) (hd : IsDisk w s c S C) (hf : FewD S C) :
    Calls Try.prog 10 #[.agg #[s, c]] w fun e w' => ∃ sv cv, e = .returned (.tuple #[.agg #[sv, cv], .int .i64 (formOf S C)]) ∧ IsDisk w' sv cv (flushOf S C every) (cacheOf S C) ∧ Below w.heap.size w w' := by
  have HD := Lib.hid hd
  obtain ⟨a, ca, a1, c1, rfl, rfl, _, _⟩ := hd.shape
  obtain ⟨n, hSn⟩ : ∃ n, n = S.length := ⟨_, rfl⟩
  obtain ⟨m, hCm⟩ : ∃ m, m = C.length := ⟨_, rfl⟩
  rw [← hSn, ← hCm] at HD
  rw [← hSn, ← hCm]
  have HB0 := Lib.hid (((Below.refl w.heap.size w).alloc (Nat.le_refl _) (.cells #[.slice a n ca, .slice a1 m c1] 25)).alloc (by simp) (.cells #[.slice none 0 0, .slice none 0 0] 25))
  have HFW := Lib.hid hf
  clear hd hf hSn hCm
  rcases formOf_cases S C with ⟨hk, h1, h2, h3⟩ | ⟨hk, h1, h2, h3⟩
  all_goals
    rw [h1, h2, h3 every]
    have HK := Lib.hid hk
    clear hk h1 h2 h3
    go_enter Try.func10, Try.ntmps10
    go_wp2_with fail
    refine (check_any _ _ _ _ _ (HD.out.below HB0.out) _ HK.out).mono ?_
    rintro e w1 ⟨rfl, hb⟩
    have HB1 := Lib.hid (HB0.out.trans (hb.mono (by simp; omega)))
    obtain ⟨⟨hx1, hx2⟩, HR1, HZ1, hlt1⟩ := boxes hb
    have HRR := Lib.hid HR1
    have HZZ := Lib.hid HZ1
    clear HR1 HZ1 hb
    go_wp2_with fail
  · refine (settled_any _ _ S C _ (HD.out.below HB1.out) HK.out every _ (fun W hW => last_all _ S C W ((HD.out.below HB1.out).below hW).2 (Inside.of HK.out))).mono ?_
    rintro e w2 ⟨sv, M, rfl, ho, hb⟩
    have HO := Lib.hid ho
    obtain ⟨hr1, hr2⟩ := kept2 HRR.out hb
    have hz1 := (hb.frozen hlt1).trans HZZ.out.1
    have hz2 := (hb.frozen hlt1).trans HZZ.out.2
    have hlt2 : w.heap.size + 1 < w2.heap.size := Nat.lt_of_lt_of_le hlt1 hb.size
    have HB2 := Lib.hid (HB1.out.trans (hb.mono HB1.out.size))
    obtain ⟨sa, sn, sc, rfl⟩ := ho.sects.form
    clear ho hb hx1 hx2
    go_wp2
    refine bodyPost_ret (v := .tuple #[.agg #[.slice sa sn sc, .slice none 0 0], .int .i64 0]) (by simp [results, Try.results10, go_sem, hr1, hr2]) rfl ⟨_, _, rfl, ⟨?_, writes_nil _⟩, ?_⟩
    · exact ((HO.out.set ⟨w.heap.size + 1, 0, none⟩ _ hlt1).set ⟨w.heap.size + 1, 1, none⟩ _ hlt1).sects
    · exact (HB2.out.setCell (by show w.heap.size ≤ w.heap.size + 1; omega) _).setCell (by show w.heap.size ≤ w.heap.size + 1; omega) _
  · refine (same_any _ _ S C _ (HD.out.below HB1.out) HFW.out).mono ?_
    rintro e w2 ⟨sv, cv, M, rfl, hM, ho, hw, hb⟩
    have HO := Lib.hid ho
    have HW := Lib.hid hw
    obtain ⟨hr1, hr2⟩ := kept2 HRR.out hb
    have hz1 := (hb.frozen hlt1).trans HZZ.out.1
    have hz2 := (hb.frozen hlt1).trans HZZ.out.2
    have hlt2 : w.heap.size + 1 < w2.heap.size := Nat.lt_of_lt_of_le hlt1 hb.size
    have HM := Lib.hid (show w.heap.size + 1 < M from Nat.lt_of_lt_of_le hlt1 hM)
    have HB2 := Lib.hid (HB1.out.trans (hb.mono HB1.out.size))
    obtain ⟨sa, sn, sc, rfl⟩ := ho.sects.form
    obtain ⟨da, dn, dc, rfl⟩ := hw.writes.form
    clear ho hw hb hx1 hx2 hM
    go_wp2
    refine bodyPost_ret (v := .tuple #[.agg #[.slice sa sn sc, .slice da dn dc], .int .i64 3]) (by simp [results, Try.results10, go_sem, hr1, hr2]) rfl ⟨_, _, rfl, ⟨?_, ?_⟩, ?_⟩
    · exact ((HO.out.set ⟨w.heap.size + 1, 0, none⟩ _ hlt1).set ⟨w.heap.size + 1, 1, none⟩ _ hlt1).sects
    · exact ((HW.out.set ⟨w.heap.size + 1, 0, none⟩ _ HM.out).set ⟨w.heap.size + 1, 1, none⟩ _ HM.out).writes
    · exact (HB2.out.setCell (by show w.heap.size ≤ w.heap.size + 1; omega) _).setCell (by show w.heap.size ≤ w.heap.size + 1; omega) _
end Go.Proofs.Ytaamjpcpdlanhaa
