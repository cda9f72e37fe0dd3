/- The law DiskTorn returns true for every input. -/
import Derived.Test.YtaamjpcpdlanhaaDskSa
namespace Go.Proofs.Ytaamjpcpdlanhaa
open Go.RowKit Go.Lib

/-- Neither the sector as it was, nor one of the first k writes to it, is what is there. -/
def NotYet (S S2 : List (List UInt8)) (C : List (Int × List UInt8)) (i k : Nat) : Prop := S2.getD i [] ≠ S.getD i [] ∧ ∀ j, j < k → (C.getD j (0, [])).1 = (i : Int) → S2.getD i [] ≠ (C.getD j (0, [])).2
theorem not_never {S : List (List UInt8)} {C : List (Int × List UInt8)} {T : Nat → Bool} (hk : chkB S C = true) {i : Nat} (hi : i < S.length) (h : NotYet S (settledOf S C T) C i C.length) : False := by
  obtain ⟨_, _, _, h4⟩ := chk_true.1 hk
  rcases after_one S C T (fun x hx => (h4 x hx).1) C.length (Nat.le_refl _) i hi with h5 | ⟨j, hj, h6, h7⟩
  · exact h.1 h5
  · exact h.2 j hj h6 h7
theorem NotYet.step {S S2 : List (List UInt8)} {C : List (Int × List UInt8)} {i k : Nat} (h : NotYet S S2 C i k) (h2 : (C.getD k (0, [])).1 = (i : Int) → S2.getD i [] ≠ (C.getD k (0, [])).2) : NotYet S S2 C i (k + 1) :=
  ⟨h.1, fun j hj => by
    by_cases e : j = k
    · subst e; exact h2
    · exact h.2 j (by omega)⟩
theorem infoB : (Try.prog.info? 4).map (fun i => (i.zero, i.size, i.bytes)) = some (some (.bool false), 1, 1) := by kernel_rfl
def trueTo (m k : Nat) : List Value := (List.replicate k true ++ List.replicate (m - k) false).map .bool
theorem trueTo_length (m k : Nat) (h : k ≤ m) : (trueTo m k).length = m := by simp [trueTo]; omega
theorem trueTo_step (m k : Nat) (h : k < m) : (trueTo m k).set k (.bool true) = trueTo m (k + 1) := by
  unfold trueTo
  have e : (Value.bool true) = Value.bool (true : Bool) := rfl
  rw [← List.map_set, List.set_append_right _ _ (by simp), List.length_replicate, Nat.sub_self, show m - k = (m - (k + 1)) + 1 by omega, List.replicate_succ, List.set_cons_zero, List.replicate_succ']
  simp
theorem trueTo_zero (m : Nat) : trueTo m 0 = List.replicate m (.bool false) := by simp [trueTo]
theorem trueTo_end (m : Nat) : trueTo m m = (List.replicate m true).map .bool := by simp [trueTo]
theorem kept_all (S : List (List UInt8)) (C : List (Int × List UInt8)) : settledOf S C (keptT (List.replicate C.length true)) = settledOf S C every :=
  after_congr _ _ _ _ _ (fun i hi => by
    show (List.replicate C.length true).getD i false = true
    rw [List.getD_eq_getElem?_getD, List.getElem?_replicate, if_pos hi]
    rfl)

set_option maxHeartbeats 2000000 in
set_option maxRecDepth 100000 in
theorem diskTorn_out (w : World) (s c : Value) (S : List (List UInt8)) (C : List (Int × List UInt8)) (hd : IsDisk w s c S C) (kv : Value) (l : List Bool) (hv : IsFlags w kv l) (h : fewB S C = false ∨ (fewB S C = true ∧ chkB S C = false) ∨ (fewB S C = true ∧ chkB S C = true ∧ 700 < l.length)) :
    Calls Try.prog 6 #[.agg #[s, c], kv] w fun e w' => e = .returned (.bool true) ∧ Below w.heap.size w w' := by
  have HD := Lib.hid hd
  have HV := Lib.hid hv
  obtain ⟨a, ca, a1, c1, rfl, rfl, _, _⟩ := hd.shape
  obtain ⟨ka, kc, rfl, hkm⟩ := flags_len hv
  obtain ⟨n, hSn⟩ : ∃ n, n = S.length := ⟨_, rfl⟩
  obtain ⟨m, hCm⟩ : ∃ m, m = C.length := ⟨_, rfl⟩
  obtain ⟨kn, hkn⟩ : ∃ m, m = l.length := ⟨_, rfl⟩
  rw [← hSn, ← hCm] at HD
  rw [← hkn] at HV hkm h
  rw [← hSn, ← hCm, ← hkn]
  unfold maxLen at hkm
  have HSn := Lib.hid hSn.symm
  have HCm := Lib.hid hCm.symm
  have HKN := Lib.hid hkn.symm
  have BW := Lib.hid (Below.refl w.heap.size w)
  clear hd hv hSn hCm hkn
  rcases h with hf | ⟨hf, hk⟩ | ⟨hf, hk, hl⟩
  · have HFB := Lib.hid hf
    clear hf
    have hbx : Below (w).heap.size (w) ((w).alloc (.cells #[.slice a n ca, .slice a1 m c1] 25)) := (Below.refl _ _).alloc (Nat.le_refl _) _
    replace BW := Lib.hid (BW.out.trans (hbx.mono BW.out.size))
    replace HD := Lib.hid (HD.out.below hbx)
    replace HV := Lib.hid (HV.out.below hbx)
    have Rd := Lib.hid (heap_alloc_new (w) (.cells #[.slice a n ca, .slice a1 m c1] 25))
    clear hbx
    go_enter Try.func6, Try.ntmps6
    obtain ⟨⟨lRda, lRdb⟩, lRdc, lRdd⟩ := box_cells Rd.out
    clear lRdc lRdd
    go_wp2_with fail
    refine (few_any _ _ S C _ HD.out _ HFB.out).mono ?_
    rintro e w1 ⟨rfl, hb⟩
    clear lRda lRdb
    replace BW := Lib.hid (BW.out.trans (hb.mono BW.out.size))
    replace HD := Lib.hid (HD.out.below hb)
    replace HV := Lib.hid (HV.out.below hb)
    replace Rd := Lib.hid (row_keep Rd.out hb)
    clear hb
    go_wp2_with fail
    refine (heads_any _).mono ?_
    rintro e w2 ⟨rfl, hb⟩
    replace BW := Lib.hid (BW.out.trans (hb.mono BW.out.size))
    replace HD := Lib.hid (HD.out.below hb)
    replace HV := Lib.hid (HV.out.below hb)
    replace Rd := Lib.hid (row_keep Rd.out hb)
    clear hb
    go_wp2
    go_ret
    exact ⟨rfl, BW.out⟩
  · have HFB := Lib.hid hf
    clear hf
    have HKB := Lib.hid hk
    clear hk
    have hbx : Below (w).heap.size (w) ((w).alloc (.cells #[.slice a n ca, .slice a1 m c1] 25)) := (Below.refl _ _).alloc (Nat.le_refl _) _
    replace BW := Lib.hid (BW.out.trans (hbx.mono BW.out.size))
    replace HD := Lib.hid (HD.out.below hbx)
    replace HV := Lib.hid (HV.out.below hbx)
    have Rd := Lib.hid (heap_alloc_new (w) (.cells #[.slice a n ca, .slice a1 m c1] 25))
    clear hbx
    go_enter Try.func6, Try.ntmps6
    obtain ⟨⟨lRda, lRdb⟩, lRdc, lRdd⟩ := box_cells Rd.out
    clear lRdc lRdd
    go_wp2_with fail
    refine (few_any _ _ S C _ HD.out _ HFB.out).mono ?_
    rintro e w1 ⟨rfl, hb⟩
    clear lRda lRdb
    replace BW := Lib.hid (BW.out.trans (hb.mono BW.out.size))
    replace HD := Lib.hid (HD.out.below hb)
    replace HV := Lib.hid (HV.out.below hb)
    replace Rd := Lib.hid (row_keep Rd.out hb)
    clear hb
    obtain ⟨⟨lRda, lRdb⟩, lRdc, lRdd⟩ := box_cells Rd.out
    clear lRdc lRdd
    go_wp2_with fail
    refine (refCheck_any _ _ S C _ HD.out _ HKB.out).mono ?_
    rintro e w2 ⟨rfl, hb⟩
    clear lRda lRdb
    replace BW := Lib.hid (BW.out.trans (hb.mono BW.out.size))
    replace HD := Lib.hid (HD.out.below hb)
    replace HV := Lib.hid (HV.out.below hb)
    replace Rd := Lib.hid (row_keep Rd.out hb)
    clear hb
    go_wp2_with fail
    refine (heads_any _).mono ?_
    rintro e w3 ⟨rfl, hb⟩
    replace BW := Lib.hid (BW.out.trans (hb.mono BW.out.size))
    replace HD := Lib.hid (HD.out.below hb)
    replace HV := Lib.hid (HV.out.below hb)
    replace Rd := Lib.hid (row_keep Rd.out hb)
    clear hb
    go_wp2
    go_ret
    exact ⟨rfl, BW.out⟩
  · have HFB := Lib.hid hf
    clear hf
    have HKB := Lib.hid hk
    clear hk
    have hbx : Below (w).heap.size (w) ((w).alloc (.cells #[.slice a n ca, .slice a1 m c1] 25)) := (Below.refl _ _).alloc (Nat.le_refl _) _
    replace BW := Lib.hid (BW.out.trans (hbx.mono BW.out.size))
    replace HD := Lib.hid (HD.out.below hbx)
    replace HV := Lib.hid (HV.out.below hbx)
    have Rd := Lib.hid (heap_alloc_new (w) (.cells #[.slice a n ca, .slice a1 m c1] 25))
    clear hbx
    go_enter Try.func6, Try.ntmps6
    obtain ⟨⟨lRda, lRdb⟩, lRdc, lRdd⟩ := box_cells Rd.out
    clear lRdc lRdd
    go_wp2_with fail
    refine (few_any _ _ S C _ HD.out _ HFB.out).mono ?_
    rintro e w1 ⟨rfl, hb⟩
    clear lRda lRdb
    replace BW := Lib.hid (BW.out.trans (hb.mono BW.out.size))
    replace HD := Lib.hid (HD.out.below hb)
    replace HV := Lib.hid (HV.out.below hb)
    replace Rd := Lib.hid (row_keep Rd.out hb)
    clear hb
    obtain ⟨⟨lRda, lRdb⟩, lRdc, lRdd⟩ := box_cells Rd.out
    clear lRdc lRdd
    go_wp2_with fail
    refine (refCheck_any _ _ S C _ HD.out _ HKB.out).mono ?_
    rintro e w2 ⟨rfl, hb⟩
    clear lRda lRdb
    replace BW := Lib.hid (BW.out.trans (hb.mono BW.out.size))
    replace HD := Lib.hid (HD.out.below hb)
    replace HV := Lib.hid (HV.out.below hb)
    replace Rd := Lib.hid (row_keep Rd.out hb)
    clear hb
    go_wp2_with fail
    refine (heads_any _).mono ?_
    rintro e w3 ⟨rfl, hb⟩
    replace BW := Lib.hid (BW.out.trans (hb.mono BW.out.size))
    replace HD := Lib.hid (HD.out.below hb)
    replace HV := Lib.hid (HV.out.below hb)
    replace Rd := Lib.hid (row_keep Rd.out hb)
    clear hb
    go_wp2
    go_ret
    exact ⟨rfl, BW.out⟩

set_option maxHeartbeats 8000000 in
set_option maxRecDepth 100000 in
theorem diskTorn_in (w : World) (s c : Value) (S : List (List UInt8)) (C : List (Int × List UInt8)) (hd : IsDisk w s c S C) (kv : Value) (l : List Bool) (hv : IsFlags w kv l) (hf : fewB S C = true) (hk : chkB S C = true) (h : l.length ≤ 700) :
    Calls Try.prog 6 #[.agg #[s, c], kv] w fun e w' => e = .returned (.bool true) ∧ Below w.heap.size w w' := by
  have HD := Lib.hid hd
  have HV := Lib.hid hv
  obtain ⟨a, ca, a1, c1, rfl, rfl, _, _⟩ := hd.shape
  obtain ⟨ka, kc, rfl, hkm⟩ := flags_len hv
  obtain ⟨n, hSn⟩ : ∃ n, n = S.length := ⟨_, rfl⟩
  obtain ⟨m, hCm⟩ : ∃ m, m = C.length := ⟨_, rfl⟩
  obtain ⟨kn, hkn⟩ : ∃ m, m = l.length := ⟨_, rfl⟩
  rw [← hSn, ← hCm] at HD
  rw [← hkn] at HV hkm h
  rw [← hSn, ← hCm, ← hkn]
  unfold maxLen at hkm
  have HSn := Lib.hid hSn.symm
  have HCm := Lib.hid hCm.symm
  have HKN := Lib.hid hkn.symm
  have BW := Lib.hid (Below.refl w.heap.size w)
  clear hd hv hSn hCm hkn
  have HFB := Lib.hid hf
  have HKB := Lib.hid hk
  obtain ⟨f1, f2, _, _⟩ := chk_true.1 hk
  rw [HSn.out] at f1
  rw [HCm.out] at f2
  obtain ⟨S2, hS2⟩ : ∃ X, X = settledOf S C (keptT l) := ⟨_, rfl⟩
  obtain ⟨S3, hS3⟩ : ∃ X, X = settledOf S C every := ⟨_, rfl⟩
  have HE2 := Lib.hid hS2
  have HS2 := Lib.hid (show flushOf S C (keptT l) = S2 by rw [flush_chk _ hk, hS2])
  have HS3 := Lib.hid (show flushOf S C every = S3 by rw [flush_chk _ hk, hS3])
  have HA3 := Lib.hid (show flushOf S C (keptT (List.replicate m true)) = S3 by rw [flush_chk _ hk, hS3, ← HCm.out]; exact kept_all S C)
  have HN2 := Lib.hid (show S2.length = n by rw [hS2, settled_length]; exact HSn.out)
  have HN3 := Lib.hid (show S3.length = n by rw [hS3, settled_length]; exact HSn.out)
  have HFD := Lib.hid (few_chk hk)
  have HFM := Lib.hid (form_chk hk)
  have HCC := Lib.hid (cache_chk hk)
  have HNV := Lib.hid (show ∀ i, i < n → NotYet S S2 C i m → False from fun i hi hh => by rw [hS2, ← HCm.out] at hh; exact not_never hk (by rw [HSn.out]; exact hi) hh)
  obtain ⟨j0, ji, jz0, jz1, jz2⟩ := info_parts infoB
  clear hf hk hS2 hS3
  have hbx : Below (w).heap.size (w) ((w).alloc (.cells #[.slice a n ca, .slice a1 m c1] 25)) := (Below.refl _ _).alloc (Nat.le_refl _) _
  replace BW := Lib.hid (BW.out.trans (hbx.mono BW.out.size))
  replace HD := Lib.hid (HD.out.below hbx)
  replace HV := Lib.hid (HV.out.below hbx)
  have Rd := Lib.hid (heap_alloc_new (w) (.cells #[.slice a n ca, .slice a1 m c1] 25))
  clear hbx
  go_enter Try.func6, Try.ntmps6
  obtain ⟨⟨lRda, lRdb⟩, lRdc, lRdd⟩ := box_cells Rd.out
  clear lRdc lRdd
  go_wp2_with fail
  refine (few_any _ _ S C _ HD.out _ HFB.out).mono ?_
  rintro e w1 ⟨rfl, hb⟩
  clear lRda lRdb
  replace BW := Lib.hid (BW.out.trans (hb.mono BW.out.size))
  replace HD := Lib.hid (HD.out.below hb)
  replace HV := Lib.hid (HV.out.below hb)
  replace Rd := Lib.hid (row_keep Rd.out hb)
  clear hb
  obtain ⟨⟨lRda, lRdb⟩, lRdc, lRdd⟩ := box_cells Rd.out
  clear lRdc lRdd
  go_wp2_with fail
  refine (refCheck_any _ _ S C _ HD.out _ HKB.out).mono ?_
  rintro e w2 ⟨rfl, hb⟩
  clear lRda lRdb
  replace BW := Lib.hid (BW.out.trans (hb.mono BW.out.size))
  replace HD := Lib.hid (HD.out.below hb)
  replace HV := Lib.hid (HV.out.below hb)
  replace Rd := Lib.hid (row_keep Rd.out hb)
  clear hb
  obtain ⟨⟨lRda, lRdb⟩, lRdc, lRdd⟩ := box_cells Rd.out
  clear lRdc lRdd
  go_wp2_with fail
  refine (crash_this _ _ S C HFD.out _ l 0 S2 [] n 0 HFM.out HS2.out HCC.out HN2.out rfl _ HD.out HV.out).mono ?_
  rintro e w3 ⟨ac, pc, bc, qc, rfl, hd, hb⟩
  clear lRda lRdb
  replace BW := Lib.hid (BW.out.trans (hb.mono BW.out.size))
  replace HD := Lib.hid (HD.out.below hb)
  replace HV := Lib.hid (HV.out.below hb)
  replace Rd := Lib.hid (row_keep Rd.out hb)
  have Dc := Lib.hid hd
  clear hd hb
  have hbx : Below (w3).heap.size (w3) ((w3).alloc (.cells #[.slice ac n pc, .slice bc 0 qc] 25)) := (Below.refl _ _).alloc (Nat.le_refl _) _
  replace BW := Lib.hid (BW.out.trans (hbx.mono BW.out.size))
  replace HD := Lib.hid (HD.out.below hbx)
  replace HV := Lib.hid (HV.out.below hbx)
  replace Rd := Lib.hid (row_keep Rd.out hbx)
  replace Dc := Lib.hid (Dc.out.below hbx)
  have Rc := Lib.hid (heap_alloc_new (w3) (.cells #[.slice ac n pc, .slice bc 0 qc] 25))
  clear hbx
  obtain ⟨⟨lRda, lRdb⟩, lRdc, lRdd⟩ := box_cells Rd.out
  clear lRdc lRdd
  obtain ⟨⟨lRca, lRcb⟩, lRcc, lRcd⟩ := box_cells Rc.out
  clear lRcc lRcd
  go_wp2
  clear lRda lRdb lRca lRcb
  obtain ⟨W0, hW0⟩ : ∃ W, W = (w3).alloc (.cells #[.slice ac n pc, .slice bc 0 qc] 25) := ⟨_, rfl⟩
  rw [← hW0] at BW HD HV Dc Rd Rc ⊢
  clear hW0
  go_loopw [7] (fun x wr => ∃ i : Nat, i ≤ n ∧ x = .int .i64 i ∧ Below W0.heap.size W0 wr) (fun x _ => n - (intOf x).toNat)
  case atStart => exact ⟨0, Nat.zero_le _, rfl, Below.refl _ _⟩
  case round =>
    obtain ⟨i, hi, rfl, hbw⟩ := hrel
    have HBi := Lib.hid hbw
    obtain ⟨hx1, hx2⟩ := kept2 (box_cells Rc.out).1 hbw
    obtain ⟨hy1, hy2⟩ := kept2 (box_cells Rd.out).1 hbw
    clear hbw
    by_cases hlt : i < n
    · obtain ⟨b, off, va, vn, vc, hac, hcl, hvn, hva⟩ := sect_shape (Dc.out.below HBi.out).1 i (by rw [HN2.out]; exact hlt)
      obtain ⟨b2, off2, ua, un, uc, ha, hdl, hun, hua⟩ := sect_shape (HD.out.below HBi.out).1 i (by rw [HSn.out]; exact hlt)
      subst hac
      subst ha
      have HVA := Lib.hid hva
      have HUA := Lib.hid hua
      have k1 : (0 : Int) ≤ (i : Int) := by omega
      have k2 : (i : Int) < (n : Int) := by omega
      obtain ⟨t0, ht0⟩ : ∃ t, decide (S2.getD i [] = S.getD i []) = t := ⟨_, rfl⟩
      have HT0 := Lib.hid ht0
      clear hvn hva hun hua ht0
      go_wp2_with fail
      go_region_held3 (fun w' => w'.cell? ⟨w3.heap.size, 0, none⟩ = some (.slice (some ⟨b, off, none⟩) n pc) ∧ w'.cell? ⟨w.heap.size, 0, none⟩ = some (.slice (some ⟨b2, off2, none⟩) n ca) ∧ w'.cell? ⟨b, off + i, none⟩ = some (.slice va vn vc) ∧ w'.cell? ⟨b2, off2 + i, none⟩ = some (.slice ua un uc)) (exact ⟨hx1, hy1, hcl, hdl⟩) (first
        | (go_at_call 15; refine (bytes_is _ _ _ _ _ (HVA.out.below (Below.refl _ _).drew).1 (HUA.out.below (Below.refl _ _).drew).1 t0 HT0.out).mono ?_; rintro e w' ⟨rfl, rfl⟩))
      go_wp2
      obtain ⟨wo, hwo⟩ : ∃ x, x = wr := ⟨_, rfl⟩
      subst hwo
      clear hx1 hx2 hy1 hy2 hcl hdl
      go_loopw [8, 9] (fun x y wr => ∃ k : Nat, k ≤ m ∧ y = .int .i64 k ∧ (∃ t : Bool, x = .bool t ∧ (t = false → NotYet S S2 C i k)) ∧ Below wo.heap.size wo wr) (fun _ y _ => m - (intOf y).toNat)
      case atStart => exact ⟨0, Nat.zero_le _, rfl, ⟨t0, rfl, fun h => ⟨of_decide_eq_false (HT0.out.trans h), fun j hj => by omega⟩⟩, (Below.refl _ _).drew⟩
      case round =>
        obtain ⟨k, hk, rfl, ⟨t, rfl, ht⟩, hbk⟩ := hrel
        have HBk := Lib.hid hbk
        have HBt := Lib.hid (HBi.out.trans (hbk.mono HBi.out.size))
        have HT := Lib.hid ht
        obtain ⟨hx1, hx2⟩ := kept2 (box_cells Rc.out).1 HBt.out
        obtain ⟨hy1, hy2⟩ := kept2 (box_cells Rd.out).1 HBt.out
        clear hbk ht
        cases t with
        | true =>
          by_cases hkm : k < m
          all_goals
            go_wp2
            go_roundw
            case rel => exact ⟨i + 1, by omega, by go_num, HBt.out⟩
            case measure => simp [intOf]; omega
        | false =>
          have HN := Lib.hid (HT.out rfl)
          clear HT
          by_cases hkm : k < m
          · obtain ⟨b3, off3, z, wa, wn, wc, ha1, hel1, hel2, hz, hwn, hwa⟩ := write_shape (HD.out.below HBt.out).2 k (by rw [HCm.out]; exact hkm)
            obtain ⟨b, off, va, vn, vc, hac, hcl, hvn, hva⟩ := sect_shape (Dc.out.below HBt.out).1 i (by rw [HN2.out]; exact hlt)
            injection hac with hac
            injection hac with e1 e2 _
            subst e1
            subst e2
            subst ha1
            have HVA := Lib.hid hva
            have HWA := Lib.hid hwa
            have HZ := Lib.hid hz
            have k3 : (0 : Int) ≤ (k : Int) := by omega
            have k4 : (k : Int) < (m : Int) := by omega
            clear hvn hva hwn hwa hz
            by_cases he : z = (i : Int)
            · subst he
              obtain ⟨t1, ht1⟩ : ∃ t, decide (S2.getD i [] = (C.getD k (0, [])).2) = t := ⟨_, rfl⟩
              have HT1 := Lib.hid ht1
              clear ht1
              go_wp2_with fail
              go_region_held3 (fun w' => w'.cell? ⟨w.heap.size, 1, none⟩ = some (.slice (some ⟨b3, off3, none⟩) m c1) ∧ w'.cell? ⟨b3, off3 + k * 2, none⟩ = some (.int .i64 i) ∧ w'.cell? ⟨b3, off3 + k * 2 + 1, none⟩ = some (.slice wa wn wc) ∧ w'.cell? ⟨w3.heap.size, 0, none⟩ = some (.slice (some ⟨b, off, none⟩) n pc) ∧ w'.cell? ⟨b, off + i, none⟩ = some (.slice va vn vc)) (exact ⟨hy2, hel1, hel2, hx1, hcl⟩) (first
                | (go_at_call 15; refine (bytes_is _ _ _ _ _ (HVA.out.below (Below.refl _ _).drew).1 (HWA.out.below (Below.refl _ _).drew).1 t1 HT1.out).mono ?_; rintro e w' ⟨rfl, rfl⟩))
              go_wp2
              go_roundw
              case rel => exact ⟨k + 1, by omega, by go_num, ⟨t1, rfl, fun h => HN.out.step (fun _ => of_decide_eq_false (HT1.out.trans h))⟩, HBk.out.drew⟩
              case measure => simp [intOf]; omega
            · have hz1 : (z == (i : Int)) = false := by simpa using he
              have hz2 : decide (z = (i : Int)) = false := decide_eq_false he
              have HE := Lib.hid he
              clear he
              go_wp2_with fail
              go_quiet (fail)
              go_wp2
              go_roundw
              case rel => exact ⟨k + 1, by omega, by go_num, ⟨false, rfl, fun _ => HN.out.step (fun e => absurd (HZ.out.trans e) HE.out)⟩, below_drewN HBk.out _⟩
              case measure => simp [intOf]; omega
          · obtain rfl : k = m := by omega
            exact absurd HN.out (HNV.out i hlt)
    · obtain rfl : i = n := by omega
      clear hx1 hx2 hy1 hy2
      obtain ⟨wA, hwA⟩ : ∃ x, x = wr := ⟨_, rfl⟩
      subst hwA
      replace BW := Lib.hid (BW.out.trans (HBi.out.mono BW.out.size))
      replace HD := Lib.hid (HD.out.below HBi.out)
      replace HV := Lib.hid (HV.out.below HBi.out)
      replace Rd := Lib.hid (row_keep Rd.out HBi.out)
      replace Dc := Lib.hid (Dc.out.below HBi.out)
      replace Rc := Lib.hid (row_keep Rc.out HBi.out)
      obtain ⟨⟨lRca, lRcb⟩, lRcc, lRcd⟩ := box_cells Rc.out
      clear lRcc lRcd
      obtain ⟨⟨lRda, lRdb⟩, lRdc, lRdd⟩ := box_cells Rd.out
      clear lRdc lRdd
      go_wp2_with (refine wpList_make_full _ rfl _ _ 26 rfl wA.heap.size 4 j0 (.bool false) 1 Try.underlying26 ji jz0 jz1 .i64 .i64 _ _ m rfl rfl rfl rfl ?d2 ?d3 ?d4 ?_)
      case d2 => rw [jz2]; omega
      case d3 => unfold maxLen; omega
      case d4 => exact Nat.le_refl _
      intro w4 hown hgrow
      clear lRca lRcb lRda lRdb
      have HB4 := Lib.hid (show Below wA.heap.size wA w4 from (Below.refl _ _).grown hgrow (Nat.le_refl _) (fun k hk => by cases hk))
      obtain ⟨g, hg⟩ : ∃ g, g = wA.heap.size := ⟨_, rfl⟩
      rw [← hg] at hown ⊢
      rw [toList_madeCells_one, ← trueTo_zero] at hown
      have HO := Lib.hid hown
      have HG := Lib.hid (Nat.le_of_eq hg.symm)
      clear hown hgrow hg
      go_wp2
      go_loopw [11] (fun x wr => ∃ k : Nat, k ≤ m ∧ x = .int .i64 k ∧ wr.ownsRow g 4 1 (.slice (some ⟨g, 0, none⟩) m m) m (trueTo m k) ∧ Below wA.heap.size wA wr) (fun x _ => m - (intOf x).toNat)
      case atStart => exact ⟨0, Nat.zero_le _, rfl, HO.out, HB4.out⟩
      case round =>
        obtain ⟨k, hk, rfl, hown, hbw⟩ := hrel
        have HOk := Lib.hid hown
        have HBk := Lib.hid hbw
        clear hbw
        by_cases hkm : k < m
        · obtain ⟨u, hu⟩ : ∃ u, (trueTo m k)[k]? = some u := ⟨(trueTo m k)[k]'(by rw [trueTo_length m k hk]; exact hkm), List.getElem?_eq_getElem _⟩
          have hcg := hown.cellAt k (by omega)
          rw [hu] at hcg
          have hfg := hown.frozenAt k
          clear hown hu
          go_wp2
          go_roundw
          case rel =>
            refine ⟨k + 1, by omega, by go_num, ?_, HBk.out.setCell (by show wA.heap.size ≤ g; exact HG.out) _⟩
            have h := (HOk.out.stored k (.bool true)).1
            rw [trueTo_step m k hkm] at h
            exact h
          case measure => simp [intOf]; omega
        · obtain rfl : k = m := by omega
          clear hown
          obtain ⟨wB, hwB⟩ : ∃ x, x = wr := ⟨_, rfl⟩
          subst hwB
          have HFL := Lib.hid (show IsFlags wB (.slice (some ⟨g, 0, none⟩) k k) (List.replicate k true) by
            have h := held_of_owns HOk.out
            rw [trueTo_end] at h
            unfold IsFlags
            rw [List.length_replicate]
            exact h)
          replace BW := Lib.hid (BW.out.trans (HBk.out.mono BW.out.size))
          replace HD := Lib.hid (HD.out.below HBk.out)
          replace HV := Lib.hid (HV.out.below HBk.out)
          replace Rd := Lib.hid (row_keep Rd.out HBk.out)
          replace Dc := Lib.hid (Dc.out.below HBk.out)
          replace Rc := Lib.hid (row_keep Rc.out HBk.out)
          obtain ⟨⟨lRda, lRdb⟩, lRdc, lRdd⟩ := box_cells Rd.out
          clear lRdc lRdd
          go_wp2_with fail
          refine (flush_this _ _ S C HFD.out 0 S3 [] i 0 HFM.out HS3.out HCC.out HN3.out rfl _ HD.out).mono ?_
          rintro e w4 ⟨af, pf, bf, qf, rfl, hd, hb⟩
          clear lRda lRdb
          replace BW := Lib.hid (BW.out.trans (hb.mono BW.out.size))
          replace HD := Lib.hid (HD.out.below hb)
          replace HV := Lib.hid (HV.out.below hb)
          replace Rd := Lib.hid (row_keep Rd.out hb)
          replace Dc := Lib.hid (Dc.out.below hb)
          replace Rc := Lib.hid (row_keep Rc.out hb)
          replace HFL := Lib.hid (HFL.out.below hb)
          have Df := Lib.hid hd
          clear hd hb
          have hbx : Below (w4).heap.size (w4) ((w4).alloc (.cells #[.slice af i pf, .slice bf 0 qf] 25)) := (Below.refl _ _).alloc (Nat.le_refl _) _
          replace BW := Lib.hid (BW.out.trans (hbx.mono BW.out.size))
          replace HD := Lib.hid (HD.out.below hbx)
          replace HV := Lib.hid (HV.out.below hbx)
          replace Rd := Lib.hid (row_keep Rd.out hbx)
          replace Dc := Lib.hid (Dc.out.below hbx)
          replace Rc := Lib.hid (row_keep Rc.out hbx)
          replace HFL := Lib.hid (HFL.out.below hbx)
          replace Df := Lib.hid (Df.out.below hbx)
          have Rf := Lib.hid (heap_alloc_new (w4) (.cells #[.slice af i pf, .slice bf 0 qf] 25))
          clear hbx
          obtain ⟨⟨lRda, lRdb⟩, lRdc, lRdd⟩ := box_cells Rd.out
          clear lRdc lRdd
          go_wp2_with fail
          refine (crash_this _ _ S C HFD.out _ (List.replicate k true) 0 S3 [] i 0 HFM.out HA3.out HCC.out HN3.out rfl _ HD.out HFL.out).mono ?_
          rintro e w5 ⟨ak, pk, bk, qk, rfl, hd, hb⟩
          clear lRda lRdb
          replace BW := Lib.hid (BW.out.trans (hb.mono BW.out.size))
          replace HD := Lib.hid (HD.out.below hb)
          replace HV := Lib.hid (HV.out.below hb)
          replace Rd := Lib.hid (row_keep Rd.out hb)
          replace Dc := Lib.hid (Dc.out.below hb)
          replace Rc := Lib.hid (row_keep Rc.out hb)
          replace HFL := Lib.hid (HFL.out.below hb)
          replace Df := Lib.hid (Df.out.below hb)
          replace Rf := Lib.hid (row_keep Rf.out hb)
          have Dk := Lib.hid hd
          clear hd hb
          have hbx : Below (w5).heap.size (w5) ((w5).alloc (.cells #[.slice ak i pk, .slice bk 0 qk] 25)) := (Below.refl _ _).alloc (Nat.le_refl _) _
          replace BW := Lib.hid (BW.out.trans (hbx.mono BW.out.size))
          replace HD := Lib.hid (HD.out.below hbx)
          replace HV := Lib.hid (HV.out.below hbx)
          replace Rd := Lib.hid (row_keep Rd.out hbx)
          replace Dc := Lib.hid (Dc.out.below hbx)
          replace Rc := Lib.hid (row_keep Rc.out hbx)
          replace HFL := Lib.hid (HFL.out.below hbx)
          replace Df := Lib.hid (Df.out.below hbx)
          replace Rf := Lib.hid (row_keep Rf.out hbx)
          replace Dk := Lib.hid (Dk.out.below hbx)
          have Rk := Lib.hid (heap_alloc_new (w5) (.cells #[.slice ak i pk, .slice bk 0 qk] 25))
          clear hbx
          obtain ⟨⟨lRfa, lRfb⟩, lRfc, lRfd⟩ := box_cells Rf.out
          clear lRfc lRfd
          obtain ⟨⟨lRka, lRkb⟩, lRkc, lRkd⟩ := box_cells Rk.out
          clear lRkc lRkd
          go_wp2_with fail
          refine (alike_any _ _ _ _ S3 [] _ Df.out Dk.out).mono ?_
          rintro e w6 ⟨rfl, hb⟩
          clear lRfa lRfb lRka lRkb
          replace BW := Lib.hid (BW.out.trans (hb.mono BW.out.size))
          replace HD := Lib.hid (HD.out.below hb)
          replace HV := Lib.hid (HV.out.below hb)
          replace Rd := Lib.hid (row_keep Rd.out hb)
          replace Dc := Lib.hid (Dc.out.below hb)
          replace Rc := Lib.hid (row_keep Rc.out hb)
          replace HFL := Lib.hid (HFL.out.below hb)
          replace Df := Lib.hid (Df.out.below hb)
          replace Rf := Lib.hid (row_keep Rf.out hb)
          replace Dk := Lib.hid (Dk.out.below hb)
          replace Rk := Lib.hid (row_keep Rk.out hb)
          clear hb
          go_wp2_with fail
          refine (heads_any _).mono ?_
          rintro e w7 ⟨rfl, hb⟩
          replace BW := Lib.hid (BW.out.trans (hb.mono BW.out.size))
          replace HD := Lib.hid (HD.out.below hb)
          replace HV := Lib.hid (HV.out.below hb)
          replace Rd := Lib.hid (row_keep Rd.out hb)
          replace Dc := Lib.hid (Dc.out.below hb)
          replace Rc := Lib.hid (row_keep Rc.out hb)
          replace HFL := Lib.hid (HFL.out.below hb)
          replace Df := Lib.hid (Df.out.below hb)
          replace Rf := Lib.hid (row_keep Rf.out hb)
          replace Dk := Lib.hid (Dk.out.below hb)
          replace Rk := Lib.hid (row_keep Rk.out hb)
          clear hb
          go_wp2
          go_ret
          exact ⟨rfl, BW.out⟩

theorem diskTorn_law (w : World) (s c : Value) (S : List (List UInt8)) (C : List (Int × List UInt8)) (hd : IsDisk w s c S C) (kv : Value) (l : List Bool) (hv : IsFlags w kv l) :
    Calls Try.prog 6 #[.agg #[s, c], kv] w fun e w' => e = .returned (.bool true) ∧ Below w.heap.size w w' := by
  cases hf : fewB S C with
  | false => exact diskTorn_out w s c S C hd kv l hv (.inl hf)
  | true =>
    cases hk : chkB S C with
    | false => exact diskTorn_out w s c S C hd kv l hv (.inr (.inl ⟨hf, hk⟩))
    | true =>
      by_cases h : 700 < l.length
      · exact diskTorn_out w s c S C hd kv l hv (.inr (.inr ⟨hf, hk, h⟩))
      · exact diskTorn_in w s c S C hd kv l hv hf hk (by omega)
end Go.Proofs.Ytaamjpcpdlanhaa
