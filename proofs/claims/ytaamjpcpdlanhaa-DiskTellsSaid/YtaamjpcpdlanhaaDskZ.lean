/- What the document's own Flush and Crash answer. -/
import Derived.Test.YtaamjpcpdlanhaaDskY
namespace Go.Proofs.Ytaamjpcpdlanhaa
open Go.RowKit Go.Lib

theorem tell_every (S : List (List UInt8)) (C : List (Int × List UInt8)) (l : List Bool) : settledOf S C (tellT true l) = settledOf S C every := after_congr _ _ _ _ _ (fun _ _ => rfl)
theorem tell_kept (S : List (List UInt8)) (C : List (Int × List UInt8)) (l : List Bool) : settledOf S C (tellT false l) = settledOf S C (keptT l) := after_congr _ _ _ _ _ (fun _ _ => rfl)

set_option maxHeartbeats 2000000 in
set_option maxRecDepth 100000 in
theorem refFlush_any (s c : Value) (S : List (List UInt8)) (C : List (Int × List UInt8)) (w : World) (hd : IsDisk w s c S C) :
    Calls Try.prog 18 #[.agg #[s, c]] w fun e w' => ∃ sv cv, e = .returned (.tuple #[.agg #[sv, cv], .int .i64 (formOf S C)]) ∧ IsDisk w' sv cv (flushOf S C every) (cacheOf S C) ∧ Below w.heap.size w w' := by
  have HD := Lib.hid hd
  obtain ⟨a, ca, a1, c1, rfl, rfl, _, _⟩ := hd.shape
  obtain ⟨n, hSn⟩ : ∃ n, n = S.length := ⟨_, rfl⟩
  obtain ⟨m, hCm⟩ : ∃ m, m = C.length := ⟨_, rfl⟩
  rw [← hSn, ← hCm] at HD
  rw [← hSn, ← hCm]
  have HB0 := Lib.hid (((Below.refl w.heap.size w).alloc (Nat.le_refl _) (.cells #[.slice a n ca, .slice a1 m c1] 25)).alloc (by simp) (.cells #[.slice none 0 0, .slice none 0 0] 25))
  clear hd hSn hCm
  rcases formOf_cases S C with ⟨hk, h1, h2, h3⟩ | ⟨hk, h1, h2, h3⟩
  all_goals
    rw [h1, h2, h3 every]
    have HK := Lib.hid hk
    clear hk h1 h2 h3
    go_enter Try.func18, Try.ntmps18
    go_wp2_with fail
    refine (refCheck_any _ _ _ _ _ (HD.out.below HB0.out) _ HK.out).mono ?_
    rintro e w1 ⟨rfl, hb⟩
    have HB1 := Lib.hid (HB0.out.trans (hb.mono (by simp; omega)))
    obtain ⟨hrow0, hrow1, hlt1⟩ := boxes_rows hb
    obtain ⟨⟨hx1, hx2⟩, _, _⟩ := box_cells hrow0
    have HRW := Lib.hid hrow1
    clear hb hrow0 hrow1
  · go_wp2_with fail
    refine (refKept_any w _ _ S C HD.out (Inside.of HK.out) _ [] (flags_nil w) true _ HB1.out).mono ?_
    rintro e w2 ⟨sv, rfl, ho, hb⟩
    have hrow := row_keep HRW.out hb
    have HRW2 := Lib.hid hrow
    obtain ⟨⟨hr1, hr2⟩, hz1, hz2⟩ := box_cells hrow
    have hlt2 : w.heap.size + 1 < w2.heap.size := Nat.lt_of_lt_of_le hlt1 hb.size
    have HB2 := Lib.hid (HB1.out.trans (hb.mono HB1.out.size))
    obtain ⟨sa, sn, sc, rfl⟩ := ho.form
    have HO := Lib.hid ho
    clear ho hb hx1 hx2 hrow
    go_wp2
    have hs9 := (HO.out.set ⟨w.heap.size + 1, 0, none⟩ (.slice sa sn sc) hlt1).set ⟨w.heap.size + 1, 1, none⟩ (.slice none 0 0) hlt1
    have hb9 := (HB2.out.setCell (p := ⟨w.heap.size + 1, 0, none⟩) (by show w.heap.size ≤ w.heap.size + 1; omega) (.slice sa sn sc)).setCell (p := ⟨w.heap.size + 1, 1, none⟩) (by show w.heap.size ≤ w.heap.size + 1; omega) (.slice none 0 0)
    rw [tell_every] at hs9
    exact bodyPost_ret (v := .tuple #[.agg #[.slice sa sn sc, .slice none 0 0], .int .i64 0]) (by simp [results, Try.results18, go_sem, hr1, hr2]) rfl ⟨_, _, rfl, ⟨hs9.sects hb9, writes_nil _⟩, hb9⟩
  · obtain ⟨⟨hr1, hr2⟩, hz1, hz2⟩ := box_cells HRW.out
    go_wp2
    have hb9 := (HB1.out.setCell (p := ⟨w.heap.size + 1, 0, none⟩) (by show w.heap.size ≤ w.heap.size + 1; omega) (.slice a n ca)).setCell (p := ⟨w.heap.size + 1, 1, none⟩) (by show w.heap.size ≤ w.heap.size + 1; omega) (.slice a1 m c1)
    exact bodyPost_ret (v := .tuple #[.agg #[.slice a n ca, .slice a1 m c1], .int .i64 3]) (by simp [results, Try.results18, go_sem, hr1, hr2]) rfl ⟨_, _, rfl, HD.out.below hb9, hb9⟩

set_option maxHeartbeats 2000000 in
set_option maxRecDepth 100000 in
theorem refCrash_any (s c : Value) (S : List (List UInt8)) (C : List (Int × List UInt8)) (w : World) (hd : IsDisk w s c S C) (kv : Value) (l : List Bool) (hv : IsFlags w kv l) :
    Calls Try.prog 19 #[.agg #[s, c], kv] w fun e w' => ∃ sv cv, e = .returned (.tuple #[.agg #[sv, cv], .int .i64 (formOf S C)]) ∧ IsDisk w' sv cv (flushOf S C (keptT l)) (cacheOf S C) ∧ Below w.heap.size w w' := by
  have HD := Lib.hid hd
  obtain ⟨a, ca, a1, c1, rfl, rfl, _, _⟩ := hd.shape
  have HV := Lib.hid hv
  obtain ⟨ka, kc, rfl, _⟩ := Held.shape hv
  clear hv
  obtain ⟨n, hSn⟩ : ∃ n, n = S.length := ⟨_, rfl⟩
  obtain ⟨m, hCm⟩ : ∃ m, m = C.length := ⟨_, rfl⟩
  rw [← hSn, ← hCm] at HD
  rw [← hSn, ← hCm]
  have HB0 := Lib.hid (((Below.refl w.heap.size w).alloc (Nat.le_refl _) (.cells #[.slice a n ca, .slice a1 m c1] 25)).alloc (by simp) (.cells #[.slice none 0 0, .slice none 0 0] 25))
  clear hd hSn hCm
  rcases formOf_cases S C with ⟨hk, h1, h2, h3⟩ | ⟨hk, h1, h2, h3⟩
  all_goals
    rw [h1, h2, h3 (keptT l)]
    have HK := Lib.hid hk
    clear hk h1 h2 h3
    go_enter Try.func19, Try.ntmps19
    go_wp2_with fail
    refine (refCheck_any _ _ _ _ _ (HD.out.below HB0.out) _ HK.out).mono ?_
    rintro e w1 ⟨rfl, hb⟩
    have HB1 := Lib.hid (HB0.out.trans (hb.mono (by simp; omega)))
    obtain ⟨hrow0, hrow1, hlt1⟩ := boxes_rows hb
    obtain ⟨⟨hx1, hx2⟩, _, _⟩ := box_cells hrow0
    have HRW := Lib.hid hrow1
    clear hb hrow0 hrow1
  · go_wp2_with fail
    refine (refKept_any w _ _ S C HD.out (Inside.of HK.out) _ l HV.out false _ HB1.out).mono ?_
    rintro e w2 ⟨sv, rfl, ho, hb⟩
    have hrow := row_keep HRW.out hb
    have HRW2 := Lib.hid hrow
    obtain ⟨⟨hr1, hr2⟩, hz1, hz2⟩ := box_cells hrow
    have hlt2 : w.heap.size + 1 < w2.heap.size := Nat.lt_of_lt_of_le hlt1 hb.size
    have HB2 := Lib.hid (HB1.out.trans (hb.mono HB1.out.size))
    obtain ⟨sa, sn, sc, rfl⟩ := ho.form
    have HO := Lib.hid ho
    clear ho hb hx1 hx2 hrow
    go_wp2
    have hs9 := (HO.out.set ⟨w.heap.size + 1, 0, none⟩ (.slice sa sn sc) hlt1).set ⟨w.heap.size + 1, 1, none⟩ (.slice none 0 0) hlt1
    have hb9 := (HB2.out.setCell (p := ⟨w.heap.size + 1, 0, none⟩) (by show w.heap.size ≤ w.heap.size + 1; omega) (.slice sa sn sc)).setCell (p := ⟨w.heap.size + 1, 1, none⟩) (by show w.heap.size ≤ w.heap.size + 1; omega) (.slice none 0 0)
    rw [tell_kept] at hs9
    exact bodyPost_ret (v := .tuple #[.agg #[.slice sa sn sc, .slice none 0 0], .int .i64 0]) (by simp [results, Try.results19, go_sem, hr1, hr2]) rfl ⟨_, _, rfl, ⟨hs9.sects hb9, writes_nil _⟩, hb9⟩
  · obtain ⟨⟨hr1, hr2⟩, hz1, hz2⟩ := box_cells HRW.out
    go_wp2
    have hb9 := (HB1.out.setCell (p := ⟨w.heap.size + 1, 0, none⟩) (by show w.heap.size ≤ w.heap.size + 1; omega) (.slice a n ca)).setCell (p := ⟨w.heap.size + 1, 1, none⟩) (by show w.heap.size ≤ w.heap.size + 1; omega) (.slice a1 m c1)
    exact bodyPost_ret (v := .tuple #[.agg #[.slice a n ca, .slice a1 m c1], .int .i64 3]) (by simp [results, Try.results19, go_sem, hr1, hr2]) rfl ⟨_, _, rfl, HD.out.below hb9, hb9⟩
end Go.Proofs.Ytaamjpcpdlanhaa
