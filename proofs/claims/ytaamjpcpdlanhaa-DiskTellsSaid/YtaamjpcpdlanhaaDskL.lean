/- What disk.last answers: a map of the call's own that names, by the sector, the last write to it that is there. -/
import Derived.Test.YtaamjpcpdlanhaaDskQ
import Derived.Maps.OwnSet
namespace Go.Proofs.Ytaamjpcpdlanhaa
open Go.RowKit Go.Lib Go.Maps

set_option maxHeartbeats 400000 in
theorem all_any (k : Nat) (w : World) : Calls Try.prog 29 #[.int .i64 k] w fun e w' => e = .returned (.bool true) ∧ w' = w := by
  go_enter Try.func29, Try.ntmps29
  go_wp2
  go_ret
  exact ⟨rfl, rfl⟩
set_option maxHeartbeats 400000 in
theorem kept_any (l : List Bool) (v : Value) (bx k : Nat) (w : World) (hv : IsFlags w v l) (hbx : w.cell? ⟨bx, 0, none⟩ = some v) :
    Calls Try.prog 30 #[.int .i64 k, .pointer (some ⟨bx, 0, none⟩)] w fun e w' => e = .returned (.bool (keptT l k)) ∧ w' = w := by
  obtain ⟨a, c, rfl, hn⟩ := Held.shape hv
  unfold maxLen at hn
  by_cases h : k < l.length
  · obtain ⟨b, off, rfl, hcl⟩ := hv.at k h
    obtain ⟨r, hr⟩ : ∃ r, r = keptT l k := ⟨_, rfl⟩
    have hr2 : l.getD k false = r := hr.symm
    rw [hr2] at hcl
    rw [← hr]
    obtain ⟨n, hnl⟩ : ∃ n, n = l.length := ⟨_, rfl⟩
    rw [← hnl] at h hn hbx
    clear hv hr hr2 hnl
    go_enter Try.func30, Try.ntmps30
    go_wp2
    go_ret
    exact ⟨rfl, rfl⟩
  · have hr : keptT l k = false := by
      unfold keptT
      rw [List.getD_eq_getElem?_getD, List.getElem?_eq_none (by omega)]
      rfl
    rw [hr]
    obtain ⟨n, hnl⟩ : ∃ n, n = l.length := ⟨_, rfl⟩
    rw [← hnl] at h hn hbx
    clear hv hr hnl
    go_enter Try.func30, Try.ntmps30
    go_wp2
    go_ret
    exact ⟨rfl, rfl⟩

theorem lawI : Keyed Try.prog 3 := int_keyed Try.underlying3
theorem zeroI (w : World) : (zeroValue 3).run Try.prog w = .ok (.int .i64 0) w := by kernel_rfl
theorem ownsMap_below {H : Type} {P : Program} {k : TypeId} {R : Value → Option (DataW H × List MemPlace)} {w w' : World} {b n : Nat} {D : DataW H} (h : w.ownsMap P k R b n D) (hb : Below w.heap.size w w') : w'.ownsMap P k R b n D := by
  have hlt := h.lt
  obtain ⟨es, clock, h1, h2⟩ := h
  exact ⟨es, clock, (hb.block b hlt).trans h1, h2⟩

/-- What the map says behind k writes. -/
def MapOk (S : List (List UInt8)) (C : List (Int × List UInt8)) (T : Nat → Bool) (k : Nat) (D : DataW Unit) : Prop :=
  IsMap D ∧ ∀ i : Nat, i < S.length →
    (has D (.int .i64 (i : Int)) = true → ∃ p : Nat, p < k ∧ D.atKey (.int .i64 (i : Int)) (.lit (.int .i64 0)) = .lit (.int .i64 (p : Int)) ∧ (after S C T k).getD i [] = (C.getD p (0, [])).2) ∧
    (has D (.int .i64 (i : Int)) = false → (after S C T k).getD i [] = S.getD i [])
theorem MapOk.start (S : List (List UInt8)) (C : List (Int × List UInt8)) (T : Nat → Bool) : MapOk S C T 0 (.map []) :=
  ⟨isMap_empty, fun _ _ => ⟨(fun h => by cases h), fun _ => rfl⟩⟩
theorem MapOk.skip {S : List (List UInt8)} {C : List (Int × List UInt8)} {T : Nat → Bool} {k : Nat} {D : DataW Unit} (h : MapOk S C T k D) (hT : T k = false) : MapOk S C T (k + 1) D := by
  have ha : after S C T (k + 1) = after S C T k := by
    show (if T k = true then _ else _) = _
    rw [if_neg (by rw [hT]; decide)]
  refine ⟨h.1, fun i hi => ?_⟩
  rw [ha]
  refine ⟨fun hh => ?_, (h.2 i hi).2⟩
  obtain ⟨p, h1, h2, h3⟩ := (h.2 i hi).1 hh
  exact ⟨p, by omega, h2, h3⟩
theorem MapOk.put {S : List (List UInt8)} {C : List (Int × List UInt8)} {T : Nat → Bool} {k : Nat} {D : DataW Unit} (h : MapOk S C T k D) (hT : T k = true) {z : Int} (hz : z = (C.getD k (0, [])).1) (h0 : 0 ≤ z) (h1 : z < (S.length : Int)) :
    MapOk S C T (k + 1) (D.put (.int .i64 z) (.lit (.int .i64 (k : Int)))) := by
  have ha : after S C T (k + 1) = (after S C T k).set z.toNat (C.getD k (0, [])).2 := by
    show (if T k = true then _ else _) = _
    rw [if_pos hT, hz]
  refine ⟨h.1.put _ _, fun i hi => ?_⟩
  rw [ha]
  have hl : i < (after S C T k).length := by rw [after_length]; exact hi
  by_cases he : (i : Int) = z
  · subst he
    rw [Int.toNat_natCast]
    refine ⟨fun _ => ⟨k, by omega, atKey_put_same h.1 (show WideAt.IsKeyLit (.int .i64 (i : Int)) from trivial) _ _, ?_⟩, fun hh => ?_⟩
    · rw [List.getD_eq_getElem?_getD, List.getElem?_set_self hl]
      rfl
    · rw [has_put_same h.1 (show WideAt.IsKeyLit (.int .i64 (i : Int)) from trivial)] at hh
      cases hh
  · have hne : Lit.int .i64 (i : Int) ≠ .int .i64 z := fun e => he (by injection e)
    have h2 : ((after S C T k).set z.toNat (C.getD k (0, [])).2).getD i [] = (after S C T k).getD i [] := by
      rw [List.getD_eq_getElem?_getD, List.getElem?_set_ne (by omega), List.getD_eq_getElem?_getD]
    rw [h2, has_put_other hne, atKey_put_other hne]
    refine ⟨fun hh => ?_, (h.2 i hi).2⟩
    obtain ⟨p, h3, h4, h5⟩ := (h.2 i hi).1 hh
    exact ⟨p, by omega, h4, h5⟩
/-- Whose sectors are there. -/
def Inside (S : List (List UInt8)) (C : List (Int × List UInt8)) : Prop := S.length ≤ 256 ∧ C.length ≤ 512 ∧ ∀ x ∈ C, 0 ≤ x.1 ∧ x.1 < (S.length : Int)
theorem Inside.of {S : List (List UInt8)} {C : List (Int × List UInt8)} (h : chkB S C = true) : Inside S C := by
  obtain ⟨h1, h2, _, h4⟩ := chk_true.1 h
  exact ⟨h1, h2, fun x hx => ⟨(h4 x hx).1, (h4 x hx).2.1⟩⟩

set_option maxHeartbeats 2000000 in
set_option maxRecDepth 100000 in
theorem last_all (c : Value) (S : List (List UInt8)) (C : List (Int × List UInt8)) (w : World) (hc : Writes w c C) (hS : Inside S C) :
    Calls Try.prog 34 #[c, .func (.func 29) #[] #[]] w fun e w' => ∃ B n D, e = .returned (.map (some B)) ∧ w'.ownsMap Try.prog 3 (plainElem Try.prog 3) B n D ∧ MapOk S C every C.length D ∧ Below w.heap.size w w' := by
  have HC := Lib.hid hc
  obtain ⟨a1, c1, rfl, hm⟩ := hc.shape
  obtain ⟨s1, s2, s3⟩ := hS
  obtain ⟨m, hCm⟩ : ∃ m, m = C.length := ⟨_, rfl⟩
  rw [← hCm] at s2 HC
  rw [← hCm]
  have HCm := Lib.hid hCm
  have HS3 := Lib.hid s3
  have hmm := @run_makeMap Try.prog
  obtain ⟨B, hB⟩ : ∃ B, B = w.heap.size := ⟨_, rfl⟩
  clear hc hm hCm s3
  go_enter Try.func34, Try.ntmps34
  go_wp2
  rw [← hB]
  have HB := Lib.hid hB
  have HB0 := Lib.hid (show Below w.heap.size w (w.alloc (.map #[] 0)) from (Below.refl _ _).alloc (Nat.le_refl _) _)
  clear hB hmm
  go_loopw [11] (fun i wr => ∃ k : Nat, k ≤ m ∧ i = .int .i64 k ∧ (∃ D, wr.ownsMap Try.prog 3 (plainElem Try.prog 3) B k D ∧ MapOk S C every k D) ∧ Below w.heap.size w wr) (fun i _ => m - (intOf i).toNat)
  case atStart => exact ⟨0, Nat.zero_le _, rfl, ⟨_, by rw [HB.out]; exact World.ownsMap_made _ _ _ _, MapOk.start S C _⟩, HB0.out⟩
  case round =>
    obtain ⟨k, hk, rfl, ⟨D, hown, hok⟩, hbw⟩ := hrel
    have HO := Lib.hid hown
    have HK := Lib.hid hok
    have HBW := Lib.hid hbw
    clear hown hok hbw
    by_cases hlt : k < m
    · obtain ⟨b, off, z, va, vn, vc, rfl, hcl1, hcl2, hz, hvn, hva⟩ := write_shape (HC.out.below HBW.out) k (by rw [← HCm.out]; exact hlt)
      have hzz : 0 ≤ z ∧ z < (S.length : Int) := by
        have h := HS3.out _ (getD_mem C k (0, []) (by rw [← HCm.out]; exact hlt))
        rw [← hz] at h
        exact h
      have HZ := Lib.hid hz
      obtain ⟨z0, z1⟩ := hzz
      have HBx := Lib.hid (HBW.out.alloc HBW.out.size (.cells #[.int .i64 z, .slice va vn vc] 55))
      have HBb := Lib.hid ((Below.refl wr.heap.size wr).alloc (Nat.le_refl _) (.cells #[.int .i64 z, .slice va vn vc] 55))
      have HO2 := Lib.hid (ownsMap_below HO.out HBb.out)
      have HKY := Lib.hid (show keyOf Try.prog 3 (.int .i64 z) = some (.int .i64 z) from keyOf_int_mk Try.underlying3 (WalkArith.wf_i64 (by omega)))
      have HVL := Lib.hid (show plainElem (H := Unit) Try.prog 3 (.int .i64 (k : Int)) = some (.lit (.int .i64 (k : Int)), []) from plainElem_int Try.underlying3 (WalkArith.wf_i64 (by omega)))
      have hlm : k < maxLen := by unfold maxLen; omega
      clear hvn hva hz HC
      go_wp2_with fail
      refine (all_any k _).mono ?_
      rintro e w4 ⟨rfl, rfl⟩
      go_wp2_with (at_mapUpdate; refine wpList_mapUpdate_own _ rfl _ _ _ 63 rfl 3 3 lawI Try.underlying63 _ B k _ rfl HO2.out hlm _ _ _ rfl rfl HKY.out _ [] HVL.out ?_; intro w5 hown5 hgrow5)
      go_roundw
      case rel => exact ⟨k + 1, by omega, by go_num, ⟨_, hown5, HK.out.put rfl HZ.out z0 z1⟩, HBx.out.grown hgrow5 HBx.out.size (fun j hj => by cases hj; rw [HB.out]; exact Nat.le_refl _)⟩
      case measure => simp [intOf]; omega
    · obtain rfl : k = m := by omega
      go_wp2
      go_ret
      refine ⟨B, _, D, rfl, HO.out, ?_, HBW.out⟩
      exact HK.out

set_option maxHeartbeats 2000000 in
set_option maxRecDepth 100000 in
theorem last_kept (c : Value) (S : List (List UInt8)) (C : List (Int × List UInt8)) (w : World) (hc : Writes w c C) (hS : Inside S C) (l : List Bool) (v : Value) (bx : Nat) (hv : IsFlags w v l) (hbx : w.cell? ⟨bx, 0, none⟩ = some v) :
    Calls Try.prog 34 #[c, .func (.func 30) #[] #[.pointer (some ⟨bx, 0, none⟩)]] w fun e w' => ∃ B n D, e = .returned (.map (some B)) ∧ w'.ownsMap Try.prog 3 (plainElem Try.prog 3) B n D ∧ MapOk S C (keptT l) C.length D ∧ Below w.heap.size w w' := by
  have HC := Lib.hid hc
  obtain ⟨a1, c1, rfl, hm⟩ := hc.shape
  obtain ⟨s1, s2, s3⟩ := hS
  obtain ⟨m, hCm⟩ : ∃ m, m = C.length := ⟨_, rfl⟩
  rw [← hCm] at s2 HC
  rw [← hCm]
  have HCm := Lib.hid hCm
  have HS3 := Lib.hid s3
  have hmm := @run_makeMap Try.prog
  obtain ⟨B, hB⟩ : ∃ B, B = w.heap.size := ⟨_, rfl⟩
  have HBF := Lib.hid (show ∀ W, Below w.heap.size w W → W.cell? ⟨bx, 0, none⟩ = some v ∧ IsFlags W v l from fun W h => ⟨kept hbx h, hv.below h⟩)
  clear hv hbx
  clear hc hm hCm s3
  go_enter Try.func34, Try.ntmps34
  go_wp2
  rw [← hB]
  have HB := Lib.hid hB
  have HB0 := Lib.hid (show Below w.heap.size w (w.alloc (.map #[] 0)) from (Below.refl _ _).alloc (Nat.le_refl _) _)
  clear hB hmm
  go_loopw [11] (fun i wr => ∃ k : Nat, k ≤ m ∧ i = .int .i64 k ∧ (∃ D, wr.ownsMap Try.prog 3 (plainElem Try.prog 3) B k D ∧ MapOk S C (keptT l) k D) ∧ Below w.heap.size w wr) (fun i _ => m - (intOf i).toNat)
  case atStart => exact ⟨0, Nat.zero_le _, rfl, ⟨_, by rw [HB.out]; exact World.ownsMap_made _ _ _ _, MapOk.start S C _⟩, HB0.out⟩
  case round =>
    obtain ⟨k, hk, rfl, ⟨D, hown, hok⟩, hbw⟩ := hrel
    have HO := Lib.hid hown
    have HK := Lib.hid hok
    have HBW := Lib.hid hbw
    clear hown hok hbw
    by_cases hlt : k < m
    · obtain ⟨b, off, z, va, vn, vc, rfl, hcl1, hcl2, hz, hvn, hva⟩ := write_shape (HC.out.below HBW.out) k (by rw [← HCm.out]; exact hlt)
      have hzz : 0 ≤ z ∧ z < (S.length : Int) := by
        have h := HS3.out _ (getD_mem C k (0, []) (by rw [← HCm.out]; exact hlt))
        rw [← hz] at h
        exact h
      have HZ := Lib.hid hz
      obtain ⟨z0, z1⟩ := hzz
      have HBx := Lib.hid (HBW.out.alloc HBW.out.size (.cells #[.int .i64 z, .slice va vn vc] 55))
      have HBb := Lib.hid ((Below.refl wr.heap.size wr).alloc (Nat.le_refl _) (.cells #[.int .i64 z, .slice va vn vc] 55))
      have HO2 := Lib.hid (ownsMap_below HO.out HBb.out)
      have HKY := Lib.hid (show keyOf Try.prog 3 (.int .i64 z) = some (.int .i64 z) from keyOf_int_mk Try.underlying3 (WalkArith.wf_i64 (by omega)))
      have HVL := Lib.hid (show plainElem (H := Unit) Try.prog 3 (.int .i64 (k : Int)) = some (.lit (.int .i64 (k : Int)), []) from plainElem_int Try.underlying3 (WalkArith.wf_i64 (by omega)))
      have hlm : k < maxLen := by unfold maxLen; omega
      clear hvn hva hz HC
      obtain ⟨hb1, hf1⟩ := HBF.out wr HBW.out
      have HF1 := Lib.hid (hf1.below HBb.out)
      have HBX1 := Lib.hid (kept hb1 HBb.out)
      clear hb1 hf1
      obtain ⟨t, ht⟩ : ∃ t, t = keptT l k := ⟨_, rfl⟩
      go_wp2_with fail
      refine (kept_any l v bx k _ HF1.out HBX1.out).mono ?_
      rintro e w4 ⟨rfl, rfl⟩
      rw [← ht]
      have HT := Lib.hid ht.symm
      clear ht
      cases t with
      | true =>
        go_wp2_with (at_mapUpdate; refine wpList_mapUpdate_own _ rfl _ _ _ 63 rfl 3 3 lawI Try.underlying63 _ B k _ rfl HO2.out hlm _ _ _ rfl rfl HKY.out _ [] HVL.out ?_; intro w5 hown5 hgrow5)
        go_roundw
        case rel => exact ⟨k + 1, by omega, by go_num, ⟨_, hown5, HK.out.put HT.out HZ.out z0 z1⟩, HBx.out.grown hgrow5 HBx.out.size (fun j hj => by cases hj; rw [HB.out]; exact Nat.le_refl _)⟩
        case measure => simp [intOf]; omega
      | false =>
        go_wp2
        go_roundw
        case rel => exact ⟨k + 1, by omega, by go_num, ⟨_, HO2.out.mono (Nat.le_succ _), HK.out.skip HT.out⟩, HBx.out⟩
        case measure => simp [intOf]; omega
    · obtain rfl : k = m := by omega
      go_wp2
      go_ret
      refine ⟨B, _, D, rfl, HO.out, ?_, HBW.out⟩
      exact HK.out
end Go.Proofs.Ytaamjpcpdlanhaa
