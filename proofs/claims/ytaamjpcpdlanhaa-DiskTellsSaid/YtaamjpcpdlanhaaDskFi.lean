/- A disk that stays where a box of a disk is written. -/
import Derived.Test.YtaamjpcpdlanhaaDskM
import Derived.Test.YtaamjpcpdlanhaaDskW
import Derived.Test.YtaamjpcpdlanhaaDskZ
namespace Go.Proofs.Ytaamjpcpdlanhaa
open Go.RowKit Go.Lib Go.Maps

/-- It lies in what came in, and in blocks that are no box of a disk. -/
def Firm (w0 W : World) (s c : Value) (S : List (List UInt8)) (C : List (Int × List UInt8)) : Prop :=
  ∀ W', Below w0.heap.size w0 W' → (∀ (k : Nat) (cs : Array Value) (t : TypeId) (f : Nat × Nat), t ≠ 25 → W.heap[k]? = some (.cells cs t f) → W'.heap[k]? = some (.cells cs t f)) → IsDisk W' s c S C
theorem Firm.disk {w0 W : World} {s c : Value} {S : List (List UInt8)} {C : List (Int × List UInt8)} (h : Firm w0 W s c S C) (hb : Below w0.heap.size w0 W) : IsDisk W s c S C := h W hb fun _ _ _ _ _ e => e
theorem Firm.below {w0 W W1 : World} {s c : Value} {S : List (List UInt8)} {C : List (Int × List UInt8)} (h : Firm w0 W s c S C) (hb : Below W.heap.size W W1) : Firm w0 W1 s c S C :=
  fun W' h1 h2 => h W' h1 fun k cs t f ht hc => h2 k cs t f ht (row_keep hc hb)
theorem Firm.box {w0 W : World} {s c : Value} {S : List (List UInt8)} {C : List (Int × List UInt8)} {rb : Nat} {cs : Array Value} {f : Nat × Nat} (h : Firm w0 W s c S C) (hn : W.heap[rb]? = some (.cells cs 25 f)) (i : Nat) (x : Value) : Firm w0 (W.setCell ⟨rb, i, none⟩ x) s c S C :=
  fun W' h1 h2 => h W' h1 fun k ds t g ht hc => h2 k ds t g ht (far_box hn hc ht i x)
theorem Firm.put {w0 W : World} {s c : Value} {S : List (List UInt8)} {C : List (Int × List UInt8)} {rb : Nat} {p q : Value} (h : Firm w0 W s c S C) (hn : W.heap[rb]? = some (.cells #[p, q] 25 (0, 0))) (u v : Value) : Firm w0 ((W.setCell ⟨rb, 0, none⟩ u).setCell ⟨rb, 1, none⟩ v) s c S C :=
  (h.box hn 0 u).box (heap_setCell_same _ _ 0 _ _ _ hn) 1 v
theorem firm_came {w0 W : World} {s c : Value} {S : List (List UInt8)} {C : List (Int × List UInt8)} (h : IsDisk w0 s c S C) : Firm w0 W s c S C := fun _ h1 _ => h.below h1
theorem firm_own {w0 W : World} {B : Nat} {s c : Value} {S : List (List UInt8)} {C : List (Int × List UInt8)} (h : OwnDisk B W s c S C) : Firm w0 W s c S C := fun W' _ h2 => by
  obtain ⟨⟨M, ys, e1, e2, e3, e4⟩, X, f1, f2, f3⟩ := h
  refine OwnDisk.disk (B := B) ⟨⟨M, ys, owns_keep e1 fun k cur _ hc => h2 _ _ _ _ tne5 hc, ⟨fun j V hi hV => owns_keep (e2.1 j V hi hV) fun k cur _ hc => h2 _ _ _ _ tne4 hc, e2.2⟩, e3, e4⟩, ⟨X, f1, owns_keep f2 fun k cur _ hc => h2 _ _ _ _ tne6 hc, fun j y hy => ⟨(f3 j y hy).1, owns_keep (f3 j y hy).2 fun k cur _ hc => h2 _ _ _ _ tne4 hc⟩⟩⟩
theorem firm_line {w0 W : World} {B : Nat} {s : Value} {S : List (List UInt8)} (h : OwnLine B w0 W s S) : Firm w0 W s (.slice none 0 0) S [] := fun W' h1 h2 => by
  obtain ⟨Us, e1, e2⟩ := h
  exact ⟨OwnLine.sects (B := B) (w0 := w0) ⟨Us, owns_keep e1 fun k cur _ hc => h2 _ _ _ _ tne5 hc, e2⟩ h1, writes_nil _⟩
theorem own_nil (B : Nat) (W : World) : OwnWrites B W (.slice none 0 0) [] := ⟨[], rfl, World.ownsRow_nil _ _ _ _, fun i x h => by simp at h⟩

set_option maxHeartbeats 2000000 in
set_option maxRecDepth 100000 in
theorem flush_own (s c : Value) (S : List (List UInt8)) (C : List (Int × List UInt8)) (w : World) (hd : IsDisk w s c S C) (hf : FewD S C) :
    Calls Try.prog 10 #[.agg #[s, c]] w fun e w' => ∃ sv cv B, e = .returned (.tuple #[.agg #[sv, cv], .int .i64 (formOf S C)]) ∧ OwnDisk B w' sv cv (flushOf S C every) (cacheOf S C) ∧ Below w.heap.size w w' := by
  have HD := Lib.hid hd
  obtain ⟨a, ca, a1, c1, rfl, rfl, _, _⟩ := hd.shape
  obtain ⟨n, hSn⟩ : ∃ n, n = S.length := ⟨_, rfl⟩
  obtain ⟨m, hCm⟩ : ∃ m, m = C.length := ⟨_, rfl⟩
  rw [← hSn, ← hCm] at HD
  rw [← hSn, ← hCm]
  have HB0 := Lib.hid (((Below.refl w.heap.size w).alloc (Nat.le_refl _) (.cells #[.slice a n ca, .slice a1 m c1] 25)).alloc (by simp) (.cells #[.slice none 0 0, .slice none 0 0] 25))
  have HFW := Lib.hid hf
  clear hd hf hSn hCm
  rcases formOf_cases S C with ⟨hk, h1, h2, h3⟩ | ⟨hk, h1, h2, h3⟩
  all_goals
    rw [h1, h2, h3 every]
    have HK := Lib.hid hk
    clear hk h1 h2 h3
    go_enter Try.func10, Try.ntmps10
    go_wp2_with fail
    refine (check_any _ _ _ _ _ (HD.out.below HB0.out) _ HK.out).mono ?_
    rintro e w1 ⟨rfl, hb⟩
    have HB1 := Lib.hid (HB0.out.trans (hb.mono (by simp; omega)))
    obtain ⟨⟨hx1, hx2⟩, HR1, HZ1, hlt1⟩ := boxes hb
    have HRR := Lib.hid HR1
    have HZZ := Lib.hid HZ1
    clear HR1 HZ1 hb
    go_wp2_with fail
  · refine (settled_any _ _ S C _ (HD.out.below HB1.out) HK.out every _ (fun W hW => last_all _ S C W ((HD.out.below HB1.out).below hW).2 (Inside.of HK.out))).mono ?_
    rintro e w2 ⟨sv, M, rfl, ho, hb⟩
    have HO := Lib.hid ho
    obtain ⟨hr1, hr2⟩ := kept2 HRR.out hb
    have hz1 := (hb.frozen hlt1).trans HZZ.out.1
    have hz2 := (hb.frozen hlt1).trans HZZ.out.2
    have hlt2 : w.heap.size + 1 < w2.heap.size := Nat.lt_of_lt_of_le hlt1 hb.size
    have HB2 := Lib.hid (HB1.out.trans (hb.mono HB1.out.size))
    obtain ⟨sa, sn, sc, rfl⟩ := ho.sects.form
    clear ho hb hx1 hx2
    go_wp2
    refine bodyPost_ret (v := .tuple #[.agg #[.slice sa sn sc, .slice none 0 0], .int .i64 0]) (by simp [results, Try.results10, go_sem, hr1, hr2]) rfl ⟨_, _, w1.heap.size, rfl, ⟨?_, own_nil _ _⟩, ?_⟩
    · exact ⟨_, ((HO.out.set ⟨w.heap.size + 1, 0, none⟩ _ hlt1).set ⟨w.heap.size + 1, 1, none⟩ _ hlt1)⟩
    · exact (HB2.out.setCell (by show w.heap.size ≤ w.heap.size + 1; omega) _).setCell (by show w.heap.size ≤ w.heap.size + 1; omega) _
  · refine (same_any _ _ S C _ (HD.out.below HB1.out) HFW.out).mono ?_
    rintro e w2 ⟨sv, cv, M, rfl, hM, ho, hw, hb⟩
    have HO := Lib.hid ho
    have HW := Lib.hid hw
    obtain ⟨hr1, hr2⟩ := kept2 HRR.out hb
    have hz1 := (hb.frozen hlt1).trans HZZ.out.1
    have hz2 := (hb.frozen hlt1).trans HZZ.out.2
    have hlt2 : w.heap.size + 1 < w2.heap.size := Nat.lt_of_lt_of_le hlt1 hb.size
    have HM := Lib.hid (show w.heap.size + 1 < M from Nat.lt_of_lt_of_le hlt1 hM)
    have HB2 := Lib.hid (HB1.out.trans (hb.mono HB1.out.size))
    obtain ⟨sa, sn, sc, rfl⟩ := ho.sects.form
    obtain ⟨da, dn, dc, rfl⟩ := hw.writes.form
    have HMB := Lib.hid hM
    clear ho hw hb hx1 hx2 hM
    go_wp2
    refine bodyPost_ret (v := .tuple #[.agg #[.slice sa sn sc, .slice da dn dc], .int .i64 3]) (by simp [results, Try.results10, go_sem, hr1, hr2]) rfl ⟨_, _, w1.heap.size, rfl, ⟨?_, ?_⟩, ?_⟩
    · exact ⟨_, ((HO.out.set ⟨w.heap.size + 1, 0, none⟩ _ hlt1).set ⟨w.heap.size + 1, 1, none⟩ _ hlt1)⟩
    · exact (((HW.out.set ⟨w.heap.size + 1, 0, none⟩ _ HM.out).set ⟨w.heap.size + 1, 1, none⟩ _ HM.out)).base HMB.out
    · exact (HB2.out.setCell (by show w.heap.size ≤ w.heap.size + 1; omega) _).setCell (by show w.heap.size ≤ w.heap.size + 1; omega) _

set_option maxHeartbeats 2000000 in
set_option maxRecDepth 100000 in
theorem crash_own (s c : Value) (S : List (List UInt8)) (C : List (Int × List UInt8)) (w : World) (hd : IsDisk w s c S C) (hf : FewD S C) (kv : Value) (l : List Bool) (hv : IsFlags w kv l) :
    Calls Try.prog 11 #[.agg #[s, c], kv] w fun e w' => ∃ sv cv B, e = .returned (.tuple #[.agg #[sv, cv], .int .i64 (formOf S C)]) ∧ OwnDisk B w' sv cv (flushOf S C (keptT l)) (cacheOf S C) ∧ Below w.heap.size w w' := by
  have HD := Lib.hid hd
  have HV := Lib.hid hv
  obtain ⟨a, ca, a1, c1, rfl, rfl, _, _⟩ := hd.shape
  obtain ⟨ka, kc, rfl, _⟩ := Held.shape hv
  obtain ⟨n, hSn⟩ : ∃ n, n = S.length := ⟨_, rfl⟩
  obtain ⟨m, hCm⟩ : ∃ m, m = C.length := ⟨_, rfl⟩
  obtain ⟨kn, hkn⟩ : ∃ m, m = l.length := ⟨_, rfl⟩
  rw [← hSn, ← hCm] at HD
  rw [← hSn, ← hCm, ← hkn]
  rw [← hkn] at HV
  have HB0 := Lib.hid ((((Below.refl w.heap.size w).alloc (Nat.le_refl _) (.cells #[.slice a n ca, .slice a1 m c1] 25)).alloc (by simp) (.cells #[.slice ka kn kc] 26)).alloc (by simp; omega) (.cells #[.slice none 0 0, .slice none 0 0] 25))
  have HFW := Lib.hid hf
  clear hd hf hv hSn hCm hkn
  rcases formOf_cases S C with ⟨hk, h1, h2, h3⟩ | ⟨hk, h1, h2, h3⟩
  all_goals
    rw [h1, h2, h3 (keptT l)]
    have HK := Lib.hid hk
    clear hk h1 h2 h3
    go_enter Try.func11, Try.ntmps11
    go_wp2_with fail
    refine (check_any _ _ _ _ _ (HD.out.below HB0.out) _ HK.out).mono ?_
    rintro e w1 ⟨rfl, hb⟩
    have HB1 := Lib.hid (HB0.out.trans (hb.mono (by simp; omega)))
    obtain ⟨⟨hx1, hx2⟩, hkx, HR1, HZ1, hlt1⟩ := boxes3 hb
    have HKX := Lib.hid hkx
    have HRR := Lib.hid HR1
    have HZZ := Lib.hid HZ1
    clear HR1 HZ1 hb hkx
    go_wp2_with fail
  · refine (settled_any _ _ S C _ (HD.out.below HB1.out) HK.out (keptT l) _ (fun W hW => last_kept _ S C W ((HD.out.below HB1.out).below hW).2 (Inside.of HK.out) l _ _ ((HV.out.below HB1.out).below hW) (kept HKX.out hW))).mono ?_
    rintro e w2 ⟨sv, M, rfl, ho, hb⟩
    have HO := Lib.hid ho
    obtain ⟨hr1, hr2⟩ := kept2 HRR.out hb
    have hz1 := (hb.frozen hlt1).trans HZZ.out.1
    have hz2 := (hb.frozen hlt1).trans HZZ.out.2
    have hlt2 : w.heap.size + 2 < w2.heap.size := Nat.lt_of_lt_of_le hlt1 hb.size
    have HB2 := Lib.hid (HB1.out.trans (hb.mono HB1.out.size))
    obtain ⟨sa, sn, sc, rfl⟩ := ho.sects.form
    clear ho hb hx1 hx2
    go_wp2
    refine bodyPost_ret (v := .tuple #[.agg #[.slice sa sn sc, .slice none 0 0], .int .i64 0]) (by simp [results, Try.results11, go_sem, hr1, hr2]) rfl ⟨_, _, w1.heap.size, rfl, ⟨?_, own_nil _ _⟩, ?_⟩
    · exact ⟨_, ((HO.out.set ⟨w.heap.size + 2, 0, none⟩ _ hlt1).set ⟨w.heap.size + 2, 1, none⟩ _ hlt1)⟩
    · exact (HB2.out.setCell (by show w.heap.size ≤ w.heap.size + 2; omega) _).setCell (by show w.heap.size ≤ w.heap.size + 2; omega) _
  · refine (same_any _ _ S C _ (HD.out.below HB1.out) HFW.out).mono ?_
    rintro e w2 ⟨sv, cv, M, rfl, hM, ho, hw, hb⟩
    have HO := Lib.hid ho
    have HW := Lib.hid hw
    obtain ⟨hr1, hr2⟩ := kept2 HRR.out hb
    have hz1 := (hb.frozen hlt1).trans HZZ.out.1
    have hz2 := (hb.frozen hlt1).trans HZZ.out.2
    have hlt2 : w.heap.size + 2 < w2.heap.size := Nat.lt_of_lt_of_le hlt1 hb.size
    have HM := Lib.hid (show w.heap.size + 2 < M from Nat.lt_of_lt_of_le hlt1 hM)
    have HB2 := Lib.hid (HB1.out.trans (hb.mono HB1.out.size))
    obtain ⟨sa, sn, sc, rfl⟩ := ho.sects.form
    obtain ⟨da, dn, dc, rfl⟩ := hw.writes.form
    have HMB := Lib.hid hM
    clear ho hw hb hx1 hx2 hM
    go_wp2
    refine bodyPost_ret (v := .tuple #[.agg #[.slice sa sn sc, .slice da dn dc], .int .i64 3]) (by simp [results, Try.results11, go_sem, hr1, hr2]) rfl ⟨_, _, w1.heap.size, rfl, ⟨?_, ?_⟩, ?_⟩
    · exact ⟨_, ((HO.out.set ⟨w.heap.size + 2, 0, none⟩ _ hlt1).set ⟨w.heap.size + 2, 1, none⟩ _ hlt1)⟩
    · exact (((HW.out.set ⟨w.heap.size + 2, 0, none⟩ _ HM.out).set ⟨w.heap.size + 2, 1, none⟩ _ HM.out)).base HMB.out
    · exact (HB2.out.setCell (by show w.heap.size ≤ w.heap.size + 2; omega) _).setCell (by show w.heap.size ≤ w.heap.size + 2; omega) _

set_option maxHeartbeats 4000000 in
set_option maxRecDepth 100000 in
theorem tamper_own (s c : Value) (S : List (List UInt8)) (C : List (Int × List UInt8)) (w : World) (hd : IsDisk w s c S C) (hf : FewD S C) (z p : Int) (y : UInt8) (F : Int) (hF : tFault S C z p = F) :
    Calls Try.prog 20 #[.agg #[s, c], .int .i64 z, .int .i64 p, .int .u8 (y.toNat : Nat)] w fun e w' => ∃ sv cv B, e = .returned (.tuple #[.agg #[sv, cv], .int .i64 F]) ∧ OwnDisk B w' sv cv (tamperOf S C z p y) C ∧ Below w.heap.size w w' := by
  have HD := Lib.hid hd
  obtain ⟨a, ca, a1, c1, rfl, rfl, _, _⟩ := hd.shape
  obtain ⟨n, hSn⟩ : ∃ n, n = S.length := ⟨_, rfl⟩
  obtain ⟨m, hCm⟩ : ∃ m, m = C.length := ⟨_, rfl⟩
  rw [← hSn, ← hCm] at HD
  rw [← hSn, ← hCm]
  have HSn := Lib.hid hSn
  have HB0 := Lib.hid (((Below.refl w.heap.size w).alloc (Nat.le_refl _) (.cells #[.slice a n ca, .slice a1 m c1] 25)).alloc (by simp) (.cells #[.slice none 0 0, .slice none 0 0] 25))
  have HFW := Lib.hid hf
  have HF := Lib.hid hF
  by_cases h0 : F = 0
  · subst h0
    obtain ⟨hk, z0, z1, p0, p1⟩ := tFault_zero hF
    obtain ⟨G, hG⟩ : ∃ G, G = tamperOf S C z p y := ⟨_, rfl⟩
    rw [← hG]
    rw [tamperOf_zero y hF] at hG
    obtain ⟨i, rfl⟩ := Int.eq_ofNat_of_zero_le z0
    obtain ⟨j, rfl⟩ := Int.eq_ofNat_of_zero_le p0
    rw [Int.toNat_natCast, Int.toNat_natCast] at hG
    obtain ⟨k1, k2, k3, k4⟩ := chk_true.1 hk
    have hi : i < n := by omega
    have hl : (S.getD i []).length = 256 := k3 _ (getD_mem S i [] (by omega))
    have hj : j < 256 := by omega
    have hn : n ≤ 256 := by omega
    have HL := Lib.hid hl
    have HG := Lib.hid hG
    obtain ⟨u, hu⟩ : ∃ u, u = (S.getD i []).getD j 0 := ⟨_, rfl⟩
    rw [← hu] at HG
    have HU := Lib.hid hu
    obtain ⟨x, hx⟩ : ∃ x, x = u ^^^ y := ⟨_, rfl⟩
    rw [← hx] at HG
    have hxx := xor_byte u y
    rw [← hx] at hxx
    have HXX := Lib.hid hxx
    clear hd hf hF hSn hCm hk z0 z1 p0 p1 k1 k2 k3 k4 hG hl hu hx hxx
    go_enter Try.func20, Try.ntmps20
    go_wp2_with fail
    refine (tamperFault_any _ _ _ _ _ (HD.out.below HB0.out) _ _ _ HF.out).mono ?_
    rintro e w1 ⟨rfl, hb⟩
    have HB1 := Lib.hid (HB0.out.trans (hb.mono (by simp; omega)))
    obtain ⟨hrow0, hrow1, hlt1⟩ := boxes_rows hb
    obtain ⟨⟨hx1, hx2⟩, _, _⟩ := box_cells hrow0
    have HRW := Lib.hid hrow1
    clear hrow0 hrow1 hb
    go_wp2_with fail
    refine (same_any _ _ S C _ (HD.out.below HB1.out) HFW.out).mono ?_
    rintro e w2 ⟨sv, cv, M, rfl, hM, ho, hw, hb⟩
    obtain ⟨g, cap, gi, ci, rfl, hgi, hgM, hc1, hc2, hfz, hstep⟩ := ho.byte i j (by rw [← HSn.out]; exact hi) (by rw [HL.out]; exact hj)
    obtain ⟨da, dn, dc, rfl⟩ := hw.writes.form
    rw [HL.out] at hc1
    rw [← HU.out] at hc2
    rw [← HSn.out] at hstep ⊢
    have HB2 := Lib.hid (HB1.out.trans (hb.mono HB1.out.size))
    have hrow := row_keep HRW.out hb
    have HRW2 := Lib.hid hrow
    obtain ⟨⟨hr1, hr2⟩, hz1, hz2⟩ := box_cells hrow
    have hlt2 : w.heap.size + 1 < w2.heap.size := Nat.lt_of_lt_of_le hlt1 hb.size
    have hg1 : w.heap.size + 1 < gi := by omega
    have hg3 : gi < w2.heap.size := World.block_lt_of_cell? _ _ hc2
    have hne1 : gi ≠ w2.heap.size := by omega
    have hne2 : w.heap.size + 1 ≠ gi := by omega
    have bN := (Below.refl w2.heap.size w2).alloc (Nat.le_refl _) (.cells #[.slice (some ⟨g, 0, none⟩) n cap, .slice da dn dc] 25)
    obtain ⟨hn1, hn2⟩ := box2_new w2 (.slice (some ⟨g, 0, none⟩) n cap) (.slice da dn dc) 25 (0, 0)
    have hd1 := kept hc1 bN
    have hd2 := kept hc2 bN
    have hd3 := (bN.frozen hg3).trans hfz
    have HST := Lib.hid (hstep x)
    have HGM := Lib.hid (show gi < M ∧ w.heap.size + 1 < M from ⟨hgM, Nat.lt_of_lt_of_le hlt1 hM⟩)
    have HWR := Lib.hid hw
    have HGI := Lib.hid hgi
    have hxx := HXX.out
    have HMB := Lib.hid hM
    clear ho hw hb hx1 hx2 hM bN hstep hgi hgM hrow
    go_wp2
    have hrow9 := row_keep (box_put (u := .slice (some ⟨g, 0, none⟩) n cap) (v := .slice da dn dc) (row_far HRW2.out ⟨gi, j, none⟩ (.int .u8 (x.toNat : Nat)) hne2)) ((Below.refl _ _).alloc (Nat.le_refl _) (.cells #[.slice (some ⟨g, 0, none⟩) n cap, .slice da dn dc] 25))
    have hs9 := ((HST.out.set ⟨w.heap.size + 1, 0, none⟩ (.slice (some ⟨g, 0, none⟩) n cap) hlt1).set ⟨w.heap.size + 1, 1, none⟩ (.slice da dn dc) hlt1).below ((Below.refl _ _).alloc (Nat.le_refl _) (.cells #[.slice (some ⟨g, 0, none⟩) n cap, .slice da dn dc] 25))
    have hw9 := (((HWR.out.set ⟨gi, j, none⟩ (.int .u8 (x.toNat : Nat)) HGM.out.1).set ⟨w.heap.size + 1, 0, none⟩ (.slice (some ⟨g, 0, none⟩) n cap) HGM.out.2).set ⟨w.heap.size + 1, 1, none⟩ (.slice da dn dc) HGM.out.2).below ((Below.refl _ _).alloc (Nat.le_refl _) (.cells #[.slice (some ⟨g, 0, none⟩) n cap, .slice da dn dc] 25))
    have hb9 := (((HB2.out.setCell (p := ⟨gi, j, none⟩) (by show w.heap.size ≤ gi; omega) (.int .u8 (x.toNat : Nat))).setCell (p := ⟨w.heap.size + 1, 0, none⟩) (by show w.heap.size ≤ w.heap.size + 1; omega) (.slice (some ⟨g, 0, none⟩) n cap)).setCell (p := ⟨w.heap.size + 1, 1, none⟩) (by show w.heap.size ≤ w.heap.size + 1; omega) (.slice da dn dc))
    have hb9 := hb9.alloc hb9.size (.cells #[.slice (some ⟨g, 0, none⟩) n cap, .slice da dn dc] 25)
    generalize World.alloc (World.setCell (World.setCell (World.setCell w2 _ _) _ _) _ _) _ = W9 at hrow9 hs9 hw9 hb9 ⊢
    obtain ⟨⟨hq1, hq2⟩, _, _⟩ := box_cells hrow9
    rw [HG.out]
    exact bodyPost_ret (v := .tuple #[.agg #[.slice (some ⟨g, 0, none⟩) n cap, .slice da dn dc], .int .i64 0]) (by simp [results, Try.results20, go_sem, hq1, hq2]) rfl ⟨_, _, w1.heap.size, rfl, ⟨⟨_, hs9⟩, hw9.base HMB.out⟩, hb9⟩
  · have hG := tamperOf_other (S := S) (C := C) (z := z) (p := p) y (by rw [hF]; exact h0)
    rw [hG]
    clear hd hf hF hSn hCm hG
    go_enter Try.func20, Try.ntmps20
    go_wp2_with fail
    refine (tamperFault_any _ _ _ _ _ (HD.out.below HB0.out) _ _ _ HF.out).mono ?_
    rintro e w1 ⟨rfl, hb⟩
    have HB1 := Lib.hid (HB0.out.trans (hb.mono (by simp; omega)))
    obtain ⟨hrow0, hrow1, hlt1⟩ := boxes_rows hb
    obtain ⟨⟨hx1, hx2⟩, _, _⟩ := box_cells hrow0
    have HRW := Lib.hid hrow1
    clear hrow0 hrow1 hb
    go_wp2_with fail
    refine (same_any _ _ S C _ (HD.out.below HB1.out) HFW.out).mono ?_
    rintro e w2 ⟨sv, cv, M, rfl, hM, ho, hw, hb⟩
    obtain ⟨sa, sn, sc, rfl⟩ := ho.sects.form
    obtain ⟨da, dn, dc, rfl⟩ := hw.writes.form
    have HB2 := Lib.hid (HB1.out.trans (hb.mono HB1.out.size))
    have hrow := row_keep HRW.out hb
    have HRW2 := Lib.hid hrow
    obtain ⟨⟨hr1, hr2⟩, hz1, hz2⟩ := box_cells hrow
    have hlt2 : w.heap.size + 1 < w2.heap.size := Nat.lt_of_lt_of_le hlt1 hb.size
    have HO := Lib.hid ho
    have HW := Lib.hid hw
    have HM := Lib.hid (show w.heap.size + 1 < M from Nat.lt_of_lt_of_le hlt1 hM)
    have HMB := Lib.hid hM
    clear ho hw hb hx1 hx2 hM hrow
    go_wp2
    have hrow9 := row_keep (box_put (u := .slice sa sn sc) (v := .slice da dn dc) HRW2.out) ((Below.refl _ _).alloc (Nat.le_refl _) (.cells #[.slice sa sn sc, .slice da dn dc] 25))
    have hs9 := ((HO.out.set ⟨w.heap.size + 1, 0, none⟩ (.slice sa sn sc) hlt1).set ⟨w.heap.size + 1, 1, none⟩ (.slice da dn dc) hlt1).below ((Below.refl _ _).alloc (Nat.le_refl _) (.cells #[.slice sa sn sc, .slice da dn dc] 25))
    have hw9 := ((HW.out.set ⟨w.heap.size + 1, 0, none⟩ (.slice sa sn sc) HM.out).set ⟨w.heap.size + 1, 1, none⟩ (.slice da dn dc) HM.out).below ((Below.refl _ _).alloc (Nat.le_refl _) (.cells #[.slice sa sn sc, .slice da dn dc] 25))
    have hb9 := ((HB2.out.setCell (p := ⟨w.heap.size + 1, 0, none⟩) (by show w.heap.size ≤ w.heap.size + 1; omega) (.slice sa sn sc)).setCell (p := ⟨w.heap.size + 1, 1, none⟩) (by show w.heap.size ≤ w.heap.size + 1; omega) (.slice da dn dc))
    have hb9 := hb9.alloc hb9.size (.cells #[.slice sa sn sc, .slice da dn dc] 25)
    generalize World.alloc (World.setCell (World.setCell w2 _ _) _ _) _ = W9 at hrow9 hs9 hw9 hb9 ⊢
    obtain ⟨⟨hq1, hq2⟩, _, _⟩ := box_cells hrow9
    exact bodyPost_ret (v := .tuple #[.agg #[.slice sa sn sc, .slice da dn dc], .int .i64 F]) (by simp [results, Try.results20, go_sem, hq1, hq2]) rfl ⟨_, _, w1.heap.size, rfl, ⟨⟨_, hs9⟩, hw9.base HMB.out⟩, hb9⟩

set_option maxHeartbeats 2000000 in
set_option maxRecDepth 100000 in
theorem refFlush_firm (s c : Value) (S : List (List UInt8)) (C : List (Int × List UInt8)) (w0 : World) (hd0 : IsDisk w0 s c S C) (w : World) (hw : Below w0.heap.size w0 w) :
    Calls Try.prog 18 #[.agg #[s, c]] w fun e w' => ∃ sv cv, e = .returned (.tuple #[.agg #[sv, cv], .int .i64 (formOf S C)]) ∧ Firm w0 w' sv cv (flushOf S C every) (cacheOf S C) ∧ Below w.heap.size w w' := by
  have HD0 := Lib.hid hd0
  have HW := Lib.hid hw
  have hd := hd0.below hw
  have HD := Lib.hid hd
  obtain ⟨a, ca, a1, c1, rfl, rfl, _, _⟩ := hd.shape
  obtain ⟨n, hSn⟩ : ∃ n, n = S.length := ⟨_, rfl⟩
  obtain ⟨m, hCm⟩ : ∃ m, m = C.length := ⟨_, rfl⟩
  rw [← hSn, ← hCm] at HD HD0
  rw [← hSn, ← hCm]
  have HB0 := Lib.hid (((Below.refl w.heap.size w).alloc (Nat.le_refl _) (.cells #[.slice a n ca, .slice a1 m c1] 25)).alloc (by simp) (.cells #[.slice none 0 0, .slice none 0 0] 25))
  clear hd hd0 hw hSn hCm
  rcases formOf_cases S C with ⟨hk, h1, h2, h3⟩ | ⟨hk, h1, h2, h3⟩
  all_goals
    rw [h1, h2, h3 every]
    have HK := Lib.hid hk
    clear hk h1 h2 h3
    go_enter Try.func18, Try.ntmps18
    go_wp2_with fail
    refine (refCheck_any _ _ _ _ _ (HD.out.below HB0.out) _ HK.out).mono ?_
    rintro e w1 ⟨rfl, hb⟩
    have HB1 := Lib.hid (HB0.out.trans (hb.mono (by simp; omega)))
    obtain ⟨hrow0, hrow1, hlt1⟩ := boxes_rows hb
    obtain ⟨⟨hx1, hx2⟩, _, _⟩ := box_cells hrow0
    have HRW := Lib.hid hrow1
    clear hb hrow0 hrow1
  · go_wp2_with fail
    refine (refKept_any w0 _ _ S C HD0.out (Inside.of HK.out) _ [] (flags_nil w0) true _ (HW.out.trans (HB1.out.mono HW.out.size))).mono ?_
    rintro e w2 ⟨sv, rfl, ho, hb⟩
    have hrow := row_keep HRW.out hb
    have HRW2 := Lib.hid hrow
    obtain ⟨⟨hr1, hr2⟩, hz1, hz2⟩ := box_cells hrow
    have hlt2 : w.heap.size + 1 < w2.heap.size := Nat.lt_of_lt_of_le hlt1 hb.size
    have HB2 := Lib.hid (HB1.out.trans (hb.mono HB1.out.size))
    obtain ⟨sa, sn, sc, rfl⟩ := ho.form
    have HO := Lib.hid ho
    clear ho hb hx1 hx2 hrow
    go_wp2
    have hs9 := (HO.out.set ⟨w.heap.size + 1, 0, none⟩ (.slice sa sn sc) hlt1).set ⟨w.heap.size + 1, 1, none⟩ (.slice none 0 0) hlt1
    have hb9 := (HB2.out.setCell (p := ⟨w.heap.size + 1, 0, none⟩) (by show w.heap.size ≤ w.heap.size + 1; omega) (.slice sa sn sc)).setCell (p := ⟨w.heap.size + 1, 1, none⟩) (by show w.heap.size ≤ w.heap.size + 1; omega) (.slice none 0 0)
    rw [tell_every] at hs9
    exact bodyPost_ret (v := .tuple #[.agg #[.slice sa sn sc, .slice none 0 0], .int .i64 0]) (by simp [results, Try.results18, go_sem, hr1, hr2]) rfl ⟨_, _, rfl, firm_line hs9, hb9⟩
  · obtain ⟨⟨hr1, hr2⟩, hz1, hz2⟩ := box_cells HRW.out
    go_wp2
    have hb9 := (HB1.out.setCell (p := ⟨w.heap.size + 1, 0, none⟩) (by show w.heap.size ≤ w.heap.size + 1; omega) (.slice a n ca)).setCell (p := ⟨w.heap.size + 1, 1, none⟩) (by show w.heap.size ≤ w.heap.size + 1; omega) (.slice a1 m c1)
    exact bodyPost_ret (v := .tuple #[.agg #[.slice a n ca, .slice a1 m c1], .int .i64 3]) (by simp [results, Try.results18, go_sem, hr1, hr2]) rfl ⟨_, _, rfl, firm_came HD0.out, hb9⟩

set_option maxHeartbeats 2000000 in
set_option maxRecDepth 100000 in
theorem refCrash_firm (s c : Value) (S : List (List UInt8)) (C : List (Int × List UInt8)) (w0 : World) (hd0 : IsDisk w0 s c S C) (w : World) (hw : Below w0.heap.size w0 w) (kv : Value) (l : List Bool) (hv : IsFlags w0 kv l) :
    Calls Try.prog 19 #[.agg #[s, c], kv] w fun e w' => ∃ sv cv, e = .returned (.tuple #[.agg #[sv, cv], .int .i64 (formOf S C)]) ∧ Firm w0 w' sv cv (flushOf S C (keptT l)) (cacheOf S C) ∧ Below w.heap.size w w' := by
  have HD0 := Lib.hid hd0
  have HW := Lib.hid hw
  have hd := hd0.below hw
  have HD := Lib.hid hd
  obtain ⟨a, ca, a1, c1, rfl, rfl, _, _⟩ := hd.shape
  have HV := Lib.hid hv
  obtain ⟨ka, kc, rfl, _⟩ := Held.shape hv
  clear hv
  obtain ⟨n, hSn⟩ : ∃ n, n = S.length := ⟨_, rfl⟩
  obtain ⟨m, hCm⟩ : ∃ m, m = C.length := ⟨_, rfl⟩
  rw [← hSn, ← hCm] at HD HD0
  rw [← hSn, ← hCm]
  have HB0 := Lib.hid (((Below.refl w.heap.size w).alloc (Nat.le_refl _) (.cells #[.slice a n ca, .slice a1 m c1] 25)).alloc (by simp) (.cells #[.slice none 0 0, .slice none 0 0] 25))
  clear hd hd0 hw hSn hCm
  rcases formOf_cases S C with ⟨hk, h1, h2, h3⟩ | ⟨hk, h1, h2, h3⟩
  all_goals
    rw [h1, h2, h3 (keptT l)]
    have HK := Lib.hid hk
    clear hk h1 h2 h3
    go_enter Try.func19, Try.ntmps19
    go_wp2_with fail
    refine (refCheck_any _ _ _ _ _ (HD.out.below HB0.out) _ HK.out).mono ?_
    rintro e w1 ⟨rfl, hb⟩
    have HB1 := Lib.hid (HB0.out.trans (hb.mono (by simp; omega)))
    obtain ⟨hrow0, hrow1, hlt1⟩ := boxes_rows hb
    obtain ⟨⟨hx1, hx2⟩, _, _⟩ := box_cells hrow0
    have HRW := Lib.hid hrow1
    clear hb hrow0 hrow1
  · go_wp2_with fail
    refine (refKept_any w0 _ _ S C HD0.out (Inside.of HK.out) _ l HV.out false _ (HW.out.trans (HB1.out.mono HW.out.size))).mono ?_
    rintro e w2 ⟨sv, rfl, ho, hb⟩
    have hrow := row_keep HRW.out hb
    have HRW2 := Lib.hid hrow
    obtain ⟨⟨hr1, hr2⟩, hz1, hz2⟩ := box_cells hrow
    have hlt2 : w.heap.size + 1 < w2.heap.size := Nat.lt_of_lt_of_le hlt1 hb.size
    have HB2 := Lib.hid (HB1.out.trans (hb.mono HB1.out.size))
    obtain ⟨sa, sn, sc, rfl⟩ := ho.form
    have HO := Lib.hid ho
    clear ho hb hx1 hx2 hrow
    go_wp2
    have hs9 := (HO.out.set ⟨w.heap.size + 1, 0, none⟩ (.slice sa sn sc) hlt1).set ⟨w.heap.size + 1, 1, none⟩ (.slice none 0 0) hlt1
    have hb9 := (HB2.out.setCell (p := ⟨w.heap.size + 1, 0, none⟩) (by show w.heap.size ≤ w.heap.size + 1; omega) (.slice sa sn sc)).setCell (p := ⟨w.heap.size + 1, 1, none⟩) (by show w.heap.size ≤ w.heap.size + 1; omega) (.slice none 0 0)
    rw [tell_kept] at hs9
    exact bodyPost_ret (v := .tuple #[.agg #[.slice sa sn sc, .slice none 0 0], .int .i64 0]) (by simp [results, Try.results19, go_sem, hr1, hr2]) rfl ⟨_, _, rfl, firm_line hs9, hb9⟩
  · obtain ⟨⟨hr1, hr2⟩, hz1, hz2⟩ := box_cells HRW.out
    go_wp2
    have hb9 := (HB1.out.setCell (p := ⟨w.heap.size + 1, 0, none⟩) (by show w.heap.size ≤ w.heap.size + 1; omega) (.slice a n ca)).setCell (p := ⟨w.heap.size + 1, 1, none⟩) (by show w.heap.size ≤ w.heap.size + 1; omega) (.slice a1 m c1)
    exact bodyPost_ret (v := .tuple #[.agg #[.slice a n ca, .slice a1 m c1], .int .i64 3]) (by simp [results, Try.results19, go_sem, hr1, hr2]) rfl ⟨_, _, rfl, firm_came HD0.out, hb9⟩
end Go.Proofs.Ytaamjpcpdlanhaa
