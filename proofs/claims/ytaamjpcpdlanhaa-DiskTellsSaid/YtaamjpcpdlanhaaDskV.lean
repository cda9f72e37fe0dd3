/- What disk.Crash answers; what was there stays. -/
import Derived.Test.YtaamjpcpdlanhaaDskU
namespace Go.Proofs.Ytaamjpcpdlanhaa
open Go.RowKit Go.Lib Go.Maps

/-- Three boxes. -/
theorem boxes3 {w w1 : World} {u v x u' v' : Value} {s r t : TypeId} (hb : Below (((w.alloc (.cells #[u, v] s)).alloc (.cells #[x] r)).alloc (.cells #[u', v'] t)).heap.size (((w.alloc (.cells #[u, v] s)).alloc (.cells #[x] r)).alloc (.cells #[u', v'] t)) w1) :
    (w1.cell? ⟨w.heap.size, 0, none⟩ = some u ∧ w1.cell? ⟨w.heap.size, 1, none⟩ = some v) ∧ w1.cell? ⟨w.heap.size + 1, 0, none⟩ = some x ∧ (w1.cell? ⟨w.heap.size + 2, 0, none⟩ = some u' ∧ w1.cell? ⟨w.heap.size + 2, 1, none⟩ = some v') ∧
    (w1.frozen? ⟨w.heap.size + 2, 0, none⟩ = false ∧ w1.frozen? ⟨w.heap.size + 2, 1, none⟩ = false) ∧ w.heap.size + 2 < w1.heap.size := by
  have b1 := (Below.refl (w.alloc (.cells #[u, v] s)).heap.size (w.alloc (.cells #[u, v] s))).alloc (Nat.le_refl _) (.cells #[x] r)
  have b2 := (Below.refl ((w.alloc (.cells #[u, v] s)).alloc (.cells #[x] r)).heap.size ((w.alloc (.cells #[u, v] s)).alloc (.cells #[x] r))).alloc (Nat.le_refl _) (.cells #[u', v'] t)
  have h1 := kept2 (kept2 (kept2 (box2_new w u v s (0, 0)) b1) b2) hb
  have hx : ((w.alloc (.cells #[u, v] s)).alloc (.cells #[x] r)).cell? ⟨w.heap.size + 1, 0, none⟩ = some x := by
    have h := heap_alloc_new (w.alloc (.cells #[u, v] s)) (.cells #[x] r)
    simp only [World.alloc, Array.size_push] at h
    unfold World.cell?
    simp only [World.alloc]
    rw [h]
    rfl
  have h2 := kept (kept hx b2) hb
  have h3 := kept2 (box2_new ((w.alloc (.cells #[u, v] s)).alloc (.cells #[x] r)) u' v' t (0, 0)) hb
  have h4 := hb.size
  have hf : ∀ i, (((w.alloc (.cells #[u, v] s)).alloc (.cells #[x] r)).alloc (.cells #[u', v'] t)).frozen? ⟨w.heap.size + 2, i, none⟩ = false := fun i => by
    have h := res_free (w.alloc (.cells #[u, v] s)) (.cells #[x] r) #[u', v'] t i
    simpa using h
  simp at h3 h4
  exact ⟨h1, h2, h3, ⟨(hb.frozen (by simp)).trans (hf 0), (hb.frozen (by simp)).trans (hf 1)⟩, by omega⟩

/-- A box of two cells: what it holds, what it becomes. -/
theorem box_cells {X : World} {r : Nat} {u v : Value} {t : TypeId} (h : X.heap[r]? = some (.cells #[u, v] t (0, 0))) : (X.cell? ⟨r, 0, none⟩ = some u ∧ X.cell? ⟨r, 1, none⟩ = some v) ∧ X.frozen? ⟨r, 0, none⟩ = false ∧ X.frozen? ⟨r, 1, none⟩ = false := by
  refine ⟨⟨?_, ?_⟩, ?_, ?_⟩
  · unfold World.cell?; rw [h]; rfl
  · unfold World.cell?; rw [h]; rfl
  · unfold World.frozen?; rw [h]; simp
  · unfold World.frozen?; rw [h]; simp
theorem box_put {X : World} {r : Nat} {p q u v : Value} {t : TypeId} (h : X.heap[r]? = some (.cells #[p, q] t (0, 0))) : ((X.setCell ⟨r, 0, none⟩ u).setCell ⟨r, 1, none⟩ v).heap[r]? = some (.cells #[u, v] t (0, 0)) := by
  have h1 : (X.setCell ⟨r, 0, none⟩ u).heap[r]? = some (.cells #[u, q] t (0, 0)) := heap_setCell_same X r 0 _ _ u h
  exact heap_setCell_same _ r 1 _ _ v h1
theorem row_far {X : World} {r : Nat} {o : Obj} (h : X.heap[r]? = some o) (a : Addr) (x : Value) (hne : r ≠ a.block) : (X.setCell a x).heap[r]? = some o := by rw [Below.heap_setCell _ _ _ _ hne]; exact h
theorem row_keep {w w' : World} {g : Nat} {o : Obj} (h : w.heap[g]? = some o) (hb : Below w.heap.size w w') : w'.heap[g]? = some o := (hb.block g (Array.getElem?_eq_some_iff.1 h).1).trans h
/-- The two boxes of a call behind a call: the argument's, the result's. -/
theorem boxes_rows {w w1 : World} {u v u' v' : Value} {s t : TypeId} (hb : Below ((w.alloc (.cells #[u, v] s)).alloc (.cells #[u', v'] t)).heap.size ((w.alloc (.cells #[u, v] s)).alloc (.cells #[u', v'] t)) w1) :
    w1.heap[w.heap.size]? = some (.cells #[u, v] s (0, 0)) ∧ w1.heap[w.heap.size + 1]? = some (.cells #[u', v'] t (0, 0)) ∧ w.heap.size + 1 < w1.heap.size := by
  have h1 := row_keep (row_keep (heap_alloc_new w (.cells #[u, v] s)) ((Below.refl _ _).alloc (Nat.le_refl _) (.cells #[u', v'] t))) hb
  have h2 := row_keep (heap_alloc_new (w.alloc (.cells #[u, v] s)) (.cells #[u', v'] t)) hb
  have h3 := hb.size
  simp at h2 h3
  exact ⟨h1, h2, by omega⟩

set_option maxHeartbeats 2000000 in
set_option maxRecDepth 100000 in
theorem crash_any (s c : Value) (S : List (List UInt8)) (C : List (Int × List UInt8)) (w : World) (hd : IsDisk w s c S C) (hf : FewD S C) (kv : Value) (l : List Bool) (hv : IsFlags w kv l) :
    Calls Try.prog 11 #[.agg #[s, c], kv] w fun e w' => ∃ sv cv, e = .returned (.tuple #[.agg #[sv, cv], .int .i64 (formOf S C)]) ∧ IsDisk w' sv cv (flushOf S C (keptT l)) (cacheOf S C) ∧ Below w.heap.size w w' := by
  have HD := Lib.hid hd
  have HV := Lib.hid hv
  obtain ⟨a, ca, a1, c1, rfl, rfl, _, _⟩ := hd.shape
  obtain ⟨ka, kc, rfl, _⟩ := Held.shape hv
  obtain ⟨n, hSn⟩ : ∃ n, n = S.length := ⟨_, rfl⟩
  obtain ⟨m, hCm⟩ : ∃ m, m = C.length := ⟨_, rfl⟩
  obtain ⟨kn, hkn⟩ : ∃ m, m = l.length := ⟨_, rfl⟩
  rw [← hSn, ← hCm] at HD
  rw [← hSn, ← hCm, ← hkn]
  rw [← hkn] at HV
  have HB0 := Lib.hid ((((Below.refl w.heap.size w).alloc (Nat.le_refl _) (.cells #[.slice a n ca, .slice a1 m c1] 25)).alloc (by simp) (.cells #[.slice ka kn kc] 26)).alloc (by simp; omega) (.cells #[.slice none 0 0, .slice none 0 0] 25))
  have HFW := Lib.hid hf
  clear hd hf hv hSn hCm hkn
  rcases formOf_cases S C with ⟨hk, h1, h2, h3⟩ | ⟨hk, h1, h2, h3⟩
  all_goals
    rw [h1, h2, h3 (keptT l)]
    have HK := Lib.hid hk
    clear hk h1 h2 h3
    go_enter Try.func11, Try.ntmps11
    go_wp2_with fail
    refine (check_any _ _ _ _ _ (HD.out.below HB0.out) _ HK.out).mono ?_
    rintro e w1 ⟨rfl, hb⟩
    have HB1 := Lib.hid (HB0.out.trans (hb.mono (by simp; omega)))
    obtain ⟨⟨hx1, hx2⟩, hkx, HR1, HZ1, hlt1⟩ := boxes3 hb
    have HKX := Lib.hid hkx
    have HRR := Lib.hid HR1
    have HZZ := Lib.hid HZ1
    clear HR1 HZ1 hb hkx
    go_wp2_with fail
  · refine (settled_any _ _ S C _ (HD.out.below HB1.out) HK.out (keptT l) _ (fun W hW => last_kept _ S C W ((HD.out.below HB1.out).below hW).2 (Inside.of HK.out) l _ _ ((HV.out.below HB1.out).below hW) (kept HKX.out hW))).mono ?_
    rintro e w2 ⟨sv, M, rfl, ho, hb⟩
    have HO := Lib.hid ho
    obtain ⟨hr1, hr2⟩ := kept2 HRR.out hb
    have hz1 := (hb.frozen hlt1).trans HZZ.out.1
    have hz2 := (hb.frozen hlt1).trans HZZ.out.2
    have hlt2 : w.heap.size + 2 < w2.heap.size := Nat.lt_of_lt_of_le hlt1 hb.size
    have HB2 := Lib.hid (HB1.out.trans (hb.mono HB1.out.size))
    obtain ⟨sa, sn, sc, rfl⟩ := ho.sects.form
    clear ho hb hx1 hx2
    go_wp2
    refine bodyPost_ret (v := .tuple #[.agg #[.slice sa sn sc, .slice none 0 0], .int .i64 0]) (by simp [results, Try.results11, go_sem, hr1, hr2]) rfl ⟨_, _, rfl, ⟨?_, writes_nil _⟩, ?_⟩
    · exact ((HO.out.set ⟨w.heap.size + 2, 0, none⟩ _ hlt1).set ⟨w.heap.size + 2, 1, none⟩ _ hlt1).sects
    · exact (HB2.out.setCell (by show w.heap.size ≤ w.heap.size + 2; omega) _).setCell (by show w.heap.size ≤ w.heap.size + 2; omega) _
  · refine (same_any _ _ S C _ (HD.out.below HB1.out) HFW.out).mono ?_
    rintro e w2 ⟨sv, cv, M, rfl, hM, ho, hw, hb⟩
    have HO := Lib.hid ho
    have HW := Lib.hid hw
    obtain ⟨hr1, hr2⟩ := kept2 HRR.out hb
    have hz1 := (hb.frozen hlt1).trans HZZ.out.1
    have hz2 := (hb.frozen hlt1).trans HZZ.out.2
    have hlt2 : w.heap.size + 2 < w2.heap.size := Nat.lt_of_lt_of_le hlt1 hb.size
    have HM := Lib.hid (show w.heap.size + 2 < M from Nat.lt_of_lt_of_le hlt1 hM)
    have HB2 := Lib.hid (HB1.out.trans (hb.mono HB1.out.size))
    obtain ⟨sa, sn, sc, rfl⟩ := ho.sects.form
    obtain ⟨da, dn, dc, rfl⟩ := hw.writes.form
    clear ho hw hb hx1 hx2 hM
    go_wp2
    refine bodyPost_ret (v := .tuple #[.agg #[.slice sa sn sc, .slice da dn dc], .int .i64 3]) (by simp [results, Try.results11, go_sem, hr1, hr2]) rfl ⟨_, _, rfl, ⟨?_, ?_⟩, ?_⟩
    · exact ((HO.out.set ⟨w.heap.size + 2, 0, none⟩ _ hlt1).set ⟨w.heap.size + 2, 1, none⟩ _ hlt1).sects
    · exact ((HW.out.set ⟨w.heap.size + 2, 0, none⟩ _ HM.out).set ⟨w.heap.size + 2, 1, none⟩ _ HM.out).writes
    · exact (HB2.out.setCell (by show w.heap.size ≤ w.heap.size + 2; omega) _).setCell (by show w.heap.size ≤ w.heap.size + 2; omega) _
end Go.Proofs.Ytaamjpcpdlanhaa
