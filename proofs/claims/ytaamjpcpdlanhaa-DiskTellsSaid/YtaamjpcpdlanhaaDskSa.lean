/- The law DiskSafe returns true for every input. -/
import Derived.Test.YtaamjpcpdlanhaaDskH
namespace Go.Proofs.Ytaamjpcpdlanhaa
open Go.RowKit Go.Lib

theorem fewD_of {S : List (List UInt8)} {C : List (Int × List UInt8)} (h : fewB S C = true) : FewD S C := by
  obtain ⟨h1, h2, h3, h4⟩ := few_true.1 h
  exact ⟨by omega, by omega, fun l hl => Nat.le_trans (h3 l hl) (by decide), fun x hx => Nat.le_trans (h4 x hx) (by decide)⟩
theorem chk_settled {S : List (List UInt8)} {C : List (Int × List UInt8)} (T : Nat → Bool) (h : chkB S C = true) : chkB (settledOf S C T) [] = true := by
  obtain ⟨h1, _, _, _⟩ := chk_true.1 h
  refine chk_true.2 ⟨by rw [settled_length]; exact h1, by simp, fun l hl => ?_, fun x hx => by simp at hx⟩
  obtain ⟨i, hi, rfl⟩ := List.mem_iff_getElem.1 hl
  have h2 := settled_mem (T := T) h i (by rw [settled_length] at hi; exact hi)
  rw [List.getD_eq_getElem?_getD, List.getElem?_eq_getElem hi] at h2
  exact h2
theorem few_chk {S : List (List UInt8)} {C : List (Int × List UInt8)} (h : chkB S C = true) : FewD S C := by
  obtain ⟨h1, h2, h3, h4⟩ := chk_true.1 h
  exact ⟨by omega, by omega, fun l hl => by rw [h3 l hl]; decide, fun x hx => by rw [(h4 x hx).2.2]; decide⟩
theorem form_chk {S : List (List UInt8)} {C : List (Int × List UInt8)} (h : chkB S C = true) : formOf S C = 0 := by rw [formOf, if_pos h]
theorem cache_chk {S : List (List UInt8)} {C : List (Int × List UInt8)} (h : chkB S C = true) : cacheOf S C = [] := by rw [cacheOf, if_pos h]
theorem flush_chk {S : List (List UInt8)} {C : List (Int × List UInt8)} (T : Nat → Bool) (h : chkB S C = true) : flushOf S C T = settledOf S C T := by rw [flushOf, if_pos h]
theorem flags_len {w : World} {v : Value} {l : List Bool} (h : IsFlags w v l) : ∃ a c, v = .slice a l.length c ∧ l.length ≤ maxLen := Held.shape h

set_option maxHeartbeats 2000000 in
set_option maxRecDepth 100000 in
theorem diskSafe_out (w : World) (s c : Value) (S : List (List UInt8)) (C : List (Int × List UInt8)) (hd : IsDisk w s c S C) (kv : Value) (l : List Bool) (hv : IsFlags w kv l) (h : fewB S C = false ∨ (fewB S C = true ∧ chkB S C = false) ∨ (fewB S C = true ∧ chkB S C = true ∧ 700 < l.length)) :
    Calls Try.prog 3 #[.agg #[s, c], kv] w fun e w' => e = .returned (.bool true) ∧ Below w.heap.size w w' := by
  have HD := Lib.hid hd
  have HV := Lib.hid hv
  obtain ⟨a, ca, a1, c1, rfl, rfl, _, _⟩ := hd.shape
  obtain ⟨ka, kc, rfl, hkm⟩ := flags_len hv
  obtain ⟨n, hSn⟩ : ∃ n, n = S.length := ⟨_, rfl⟩
  obtain ⟨m, hCm⟩ : ∃ m, m = C.length := ⟨_, rfl⟩
  obtain ⟨kn, hkn⟩ : ∃ m, m = l.length := ⟨_, rfl⟩
  rw [← hSn, ← hCm] at HD
  rw [← hkn] at HV hkm h
  rw [← hSn, ← hCm, ← hkn]
  unfold maxLen at hkm
  have HSn := Lib.hid hSn.symm
  have HCm := Lib.hid hCm.symm
  have HKN := Lib.hid hkn.symm
  have BW := Lib.hid (Below.refl w.heap.size w)
  clear hd hv hSn hCm hkn
  rcases h with hf | ⟨hf, hk⟩ | ⟨hf, hk, hl⟩
  · have HFB := Lib.hid hf
    clear hf
    have hbx : Below (w).heap.size (w) ((w).alloc (.cells #[.slice a n ca, .slice a1 m c1] 25)) := (Below.refl _ _).alloc (Nat.le_refl _) _
    replace BW := Lib.hid (BW.out.trans (hbx.mono BW.out.size))
    replace HD := Lib.hid (HD.out.below hbx)
    replace HV := Lib.hid (HV.out.below hbx)
    have Rd := Lib.hid (heap_alloc_new (w) (.cells #[.slice a n ca, .slice a1 m c1] 25))
    clear hbx
    go_enter Try.func3, Try.ntmps3
    obtain ⟨⟨lRda, lRdb⟩, lRdc, lRdd⟩ := box_cells Rd.out
    clear lRdc lRdd
    go_wp2_with fail
    refine (few_any _ _ S C _ HD.out _ HFB.out).mono ?_
    rintro e w1 ⟨rfl, hb⟩
    clear lRda lRdb
    replace BW := Lib.hid (BW.out.trans (hb.mono BW.out.size))
    replace HD := Lib.hid (HD.out.below hb)
    replace HV := Lib.hid (HV.out.below hb)
    replace Rd := Lib.hid (row_keep Rd.out hb)
    clear hb
    go_wp2_with fail
    refine (heads_any _).mono ?_
    rintro e w2 ⟨rfl, hb⟩
    replace BW := Lib.hid (BW.out.trans (hb.mono BW.out.size))
    replace HD := Lib.hid (HD.out.below hb)
    replace HV := Lib.hid (HV.out.below hb)
    replace Rd := Lib.hid (row_keep Rd.out hb)
    clear hb
    go_wp2
    go_ret
    exact ⟨rfl, BW.out⟩
  · have HFB := Lib.hid hf
    clear hf
    have HKB := Lib.hid hk
    clear hk
    have hbx : Below (w).heap.size (w) ((w).alloc (.cells #[.slice a n ca, .slice a1 m c1] 25)) := (Below.refl _ _).alloc (Nat.le_refl _) _
    replace BW := Lib.hid (BW.out.trans (hbx.mono BW.out.size))
    replace HD := Lib.hid (HD.out.below hbx)
    replace HV := Lib.hid (HV.out.below hbx)
    have Rd := Lib.hid (heap_alloc_new (w) (.cells #[.slice a n ca, .slice a1 m c1] 25))
    clear hbx
    go_enter Try.func3, Try.ntmps3
    obtain ⟨⟨lRda, lRdb⟩, lRdc, lRdd⟩ := box_cells Rd.out
    clear lRdc lRdd
    go_wp2_with fail
    refine (few_any _ _ S C _ HD.out _ HFB.out).mono ?_
    rintro e w1 ⟨rfl, hb⟩
    clear lRda lRdb
    replace BW := Lib.hid (BW.out.trans (hb.mono BW.out.size))
    replace HD := Lib.hid (HD.out.below hb)
    replace HV := Lib.hid (HV.out.below hb)
    replace Rd := Lib.hid (row_keep Rd.out hb)
    clear hb
    obtain ⟨⟨lRda, lRdb⟩, lRdc, lRdd⟩ := box_cells Rd.out
    clear lRdc lRdd
    go_wp2_with fail
    refine (refCheck_any _ _ S C _ HD.out _ HKB.out).mono ?_
    rintro e w2 ⟨rfl, hb⟩
    clear lRda lRdb
    replace BW := Lib.hid (BW.out.trans (hb.mono BW.out.size))
    replace HD := Lib.hid (HD.out.below hb)
    replace HV := Lib.hid (HV.out.below hb)
    replace Rd := Lib.hid (row_keep Rd.out hb)
    clear hb
    go_wp2_with fail
    refine (heads_any _).mono ?_
    rintro e w3 ⟨rfl, hb⟩
    replace BW := Lib.hid (BW.out.trans (hb.mono BW.out.size))
    replace HD := Lib.hid (HD.out.below hb)
    replace HV := Lib.hid (HV.out.below hb)
    replace Rd := Lib.hid (row_keep Rd.out hb)
    clear hb
    go_wp2
    go_ret
    exact ⟨rfl, BW.out⟩
  · have HFB := Lib.hid hf
    clear hf
    have HKB := Lib.hid hk
    clear hk
    have hbx : Below (w).heap.size (w) ((w).alloc (.cells #[.slice a n ca, .slice a1 m c1] 25)) := (Below.refl _ _).alloc (Nat.le_refl _) _
    replace BW := Lib.hid (BW.out.trans (hbx.mono BW.out.size))
    replace HD := Lib.hid (HD.out.below hbx)
    replace HV := Lib.hid (HV.out.below hbx)
    have Rd := Lib.hid (heap_alloc_new (w) (.cells #[.slice a n ca, .slice a1 m c1] 25))
    clear hbx
    go_enter Try.func3, Try.ntmps3
    obtain ⟨⟨lRda, lRdb⟩, lRdc, lRdd⟩ := box_cells Rd.out
    clear lRdc lRdd
    go_wp2_with fail
    refine (few_any _ _ S C _ HD.out _ HFB.out).mono ?_
    rintro e w1 ⟨rfl, hb⟩
    clear lRda lRdb
    replace BW := Lib.hid (BW.out.trans (hb.mono BW.out.size))
    replace HD := Lib.hid (HD.out.below hb)
    replace HV := Lib.hid (HV.out.below hb)
    replace Rd := Lib.hid (row_keep Rd.out hb)
    clear hb
    obtain ⟨⟨lRda, lRdb⟩, lRdc, lRdd⟩ := box_cells Rd.out
    clear lRdc lRdd
    go_wp2_with fail
    refine (refCheck_any _ _ S C _ HD.out _ HKB.out).mono ?_
    rintro e w2 ⟨rfl, hb⟩
    clear lRda lRdb
    replace BW := Lib.hid (BW.out.trans (hb.mono BW.out.size))
    replace HD := Lib.hid (HD.out.below hb)
    replace HV := Lib.hid (HV.out.below hb)
    replace Rd := Lib.hid (row_keep Rd.out hb)
    clear hb
    go_wp2_with fail
    refine (heads_any _).mono ?_
    rintro e w3 ⟨rfl, hb⟩
    replace BW := Lib.hid (BW.out.trans (hb.mono BW.out.size))
    replace HD := Lib.hid (HD.out.below hb)
    replace HV := Lib.hid (HV.out.below hb)
    replace Rd := Lib.hid (row_keep Rd.out hb)
    clear hb
    go_wp2
    go_ret
    exact ⟨rfl, BW.out⟩

set_option maxHeartbeats 4000000 in
set_option maxRecDepth 100000 in
theorem diskSafe_in (w : World) (s c : Value) (S : List (List UInt8)) (C : List (Int × List UInt8)) (hd : IsDisk w s c S C) (kv : Value) (l : List Bool) (hv : IsFlags w kv l) (hf : fewB S C = true) (hk : chkB S C = true) (h : l.length ≤ 700) :
    Calls Try.prog 3 #[.agg #[s, c], kv] w fun e w' => e = .returned (.bool true) ∧ Below w.heap.size w w' := by
  have HD := Lib.hid hd
  have HV := Lib.hid hv
  obtain ⟨a, ca, a1, c1, rfl, rfl, _, _⟩ := hd.shape
  obtain ⟨ka, kc, rfl, hkm⟩ := flags_len hv
  obtain ⟨n, hSn⟩ : ∃ n, n = S.length := ⟨_, rfl⟩
  obtain ⟨m, hCm⟩ : ∃ m, m = C.length := ⟨_, rfl⟩
  obtain ⟨kn, hkn⟩ : ∃ m, m = l.length := ⟨_, rfl⟩
  rw [← hSn, ← hCm] at HD
  rw [← hkn] at HV hkm h
  rw [← hSn, ← hCm, ← hkn]
  unfold maxLen at hkm
  have HSn := Lib.hid hSn.symm
  have HCm := Lib.hid hCm.symm
  have HKN := Lib.hid hkn.symm
  have BW := Lib.hid (Below.refl w.heap.size w)
  clear hd hv hSn hCm hkn
  have HFB := Lib.hid hf
  have HKB := Lib.hid hk
  obtain ⟨S2, hS2⟩ : ∃ X, X = settledOf S C every := ⟨_, rfl⟩
  have HS2 := Lib.hid (show flushOf S C every = S2 by rw [flush_chk _ hk, hS2])
  have HK2 := Lib.hid (show chkB S2 [] = true by rw [hS2]; exact chk_settled _ hk)
  have HN2 := Lib.hid (show S2.length = n by rw [hS2, settled_length]; exact HSn.out)
  have HC2 := Lib.hid (show flushOf S2 [] (keptT l) = S2 by rw [flush_chk _ HK2.out]; rfl)
  have HC3 := Lib.hid (show flushOf S C (keptT []) = S by rw [flush_chk _ hk]; exact after_none _ _ _ _ (fun _ _ => rfl))
  have HFD := Lib.hid (few_chk hk)
  have HFD2 := Lib.hid (few_chk HK2.out)
  have HFM := Lib.hid (form_chk hk)
  have HCC := Lib.hid (cache_chk hk)
  have HFM2 := Lib.hid (form_chk HK2.out)
  have HCC2 := Lib.hid (cache_chk HK2.out)
  clear hf hk hS2
  have hbx : Below (w).heap.size (w) ((w).alloc (.cells #[.slice a n ca, .slice a1 m c1] 25)) := (Below.refl _ _).alloc (Nat.le_refl _) _
  replace BW := Lib.hid (BW.out.trans (hbx.mono BW.out.size))
  replace HD := Lib.hid (HD.out.below hbx)
  replace HV := Lib.hid (HV.out.below hbx)
  have Rd := Lib.hid (heap_alloc_new (w) (.cells #[.slice a n ca, .slice a1 m c1] 25))
  clear hbx
  go_enter Try.func3, Try.ntmps3
  obtain ⟨⟨lRda, lRdb⟩, lRdc, lRdd⟩ := box_cells Rd.out
  clear lRdc lRdd
  go_wp2_with fail
  refine (few_any _ _ S C _ HD.out _ HFB.out).mono ?_
  rintro e w1 ⟨rfl, hb⟩
  clear lRda lRdb
  replace BW := Lib.hid (BW.out.trans (hb.mono BW.out.size))
  replace HD := Lib.hid (HD.out.below hb)
  replace HV := Lib.hid (HV.out.below hb)
  replace Rd := Lib.hid (row_keep Rd.out hb)
  clear hb
  obtain ⟨⟨lRda, lRdb⟩, lRdc, lRdd⟩ := box_cells Rd.out
  clear lRdc lRdd
  go_wp2_with fail
  refine (refCheck_any _ _ S C _ HD.out _ HKB.out).mono ?_
  rintro e w2 ⟨rfl, hb⟩
  clear lRda lRdb
  replace BW := Lib.hid (BW.out.trans (hb.mono BW.out.size))
  replace HD := Lib.hid (HD.out.below hb)
  replace HV := Lib.hid (HV.out.below hb)
  replace Rd := Lib.hid (row_keep Rd.out hb)
  clear hb
  obtain ⟨⟨lRda, lRdb⟩, lRdc, lRdd⟩ := box_cells Rd.out
  clear lRdc lRdd
  go_wp2_with fail
  refine (flush_this _ _ S C HFD.out 0 S2 [] n 0 HFM.out HS2.out HCC.out HN2.out rfl _ HD.out).mono ?_
  rintro e w3 ⟨af, pf, bf, qf, rfl, hd, hb⟩
  clear lRda lRdb
  replace BW := Lib.hid (BW.out.trans (hb.mono BW.out.size))
  replace HD := Lib.hid (HD.out.below hb)
  replace HV := Lib.hid (HV.out.below hb)
  replace Rd := Lib.hid (row_keep Rd.out hb)
  have Df := Lib.hid hd
  clear hd hb
  have hbx : Below (w3).heap.size (w3) ((w3).alloc (.cells #[.slice af n pf, .slice bf 0 qf] 25)) := (Below.refl _ _).alloc (Nat.le_refl _) _
  replace BW := Lib.hid (BW.out.trans (hbx.mono BW.out.size))
  replace HD := Lib.hid (HD.out.below hbx)
  replace HV := Lib.hid (HV.out.below hbx)
  replace Rd := Lib.hid (row_keep Rd.out hbx)
  replace Df := Lib.hid (Df.out.below hbx)
  have Rf := Lib.hid (heap_alloc_new (w3) (.cells #[.slice af n pf, .slice bf 0 qf] 25))
  clear hbx
  obtain ⟨⟨lRfa, lRfb⟩, lRfc, lRfd⟩ := box_cells Rf.out
  clear lRfc lRfd
  go_wp2_with fail
  refine (crash_this _ _ S2 [] HFD2.out _ l 0 S2 [] n 0 HFM2.out HC2.out HCC2.out HN2.out rfl _ Df.out HV.out).mono ?_
  rintro e w4 ⟨ac, pc, bc, qc, rfl, hd, hb⟩
  clear lRfa lRfb
  replace BW := Lib.hid (BW.out.trans (hb.mono BW.out.size))
  replace HD := Lib.hid (HD.out.below hb)
  replace HV := Lib.hid (HV.out.below hb)
  replace Rd := Lib.hid (row_keep Rd.out hb)
  replace Df := Lib.hid (Df.out.below hb)
  replace Rf := Lib.hid (row_keep Rf.out hb)
  have Dc := Lib.hid hd
  clear hd hb
  have hbx : Below (w4).heap.size (w4) ((w4).alloc (.cells #[.slice ac n pc, .slice bc 0 qc] 25)) := (Below.refl _ _).alloc (Nat.le_refl _) _
  replace BW := Lib.hid (BW.out.trans (hbx.mono BW.out.size))
  replace HD := Lib.hid (HD.out.below hbx)
  replace HV := Lib.hid (HV.out.below hbx)
  replace Rd := Lib.hid (row_keep Rd.out hbx)
  replace Df := Lib.hid (Df.out.below hbx)
  replace Rf := Lib.hid (row_keep Rf.out hbx)
  replace Dc := Lib.hid (Dc.out.below hbx)
  have Rc := Lib.hid (heap_alloc_new (w4) (.cells #[.slice ac n pc, .slice bc 0 qc] 25))
  clear hbx
  obtain ⟨⟨lRda, lRdb⟩, lRdc, lRdd⟩ := box_cells Rd.out
  clear lRdc lRdd
  go_wp2_with fail
  refine (crash_this _ _ S C HFD.out _ [] 0 S [] n 0 HFM.out HC3.out HCC.out HSn.out rfl _ HD.out (flags_nil _)).mono ?_
  rintro e w5 ⟨an, pn, bn, qn, rfl, hd, hb⟩
  clear lRda lRdb
  replace BW := Lib.hid (BW.out.trans (hb.mono BW.out.size))
  replace HD := Lib.hid (HD.out.below hb)
  replace HV := Lib.hid (HV.out.below hb)
  replace Rd := Lib.hid (row_keep Rd.out hb)
  replace Df := Lib.hid (Df.out.below hb)
  replace Rf := Lib.hid (row_keep Rf.out hb)
  replace Dc := Lib.hid (Dc.out.below hb)
  replace Rc := Lib.hid (row_keep Rc.out hb)
  have Dn := Lib.hid hd
  clear hd hb
  have hbx : Below (w5).heap.size (w5) ((w5).alloc (.cells #[.slice an n pn, .slice bn 0 qn] 25)) := (Below.refl _ _).alloc (Nat.le_refl _) _
  replace BW := Lib.hid (BW.out.trans (hbx.mono BW.out.size))
  replace HD := Lib.hid (HD.out.below hbx)
  replace HV := Lib.hid (HV.out.below hbx)
  replace Rd := Lib.hid (row_keep Rd.out hbx)
  replace Df := Lib.hid (Df.out.below hbx)
  replace Rf := Lib.hid (row_keep Rf.out hbx)
  replace Dc := Lib.hid (Dc.out.below hbx)
  replace Rc := Lib.hid (row_keep Rc.out hbx)
  replace Dn := Lib.hid (Dn.out.below hbx)
  have Rn := Lib.hid (heap_alloc_new (w5) (.cells #[.slice an n pn, .slice bn 0 qn] 25))
  clear hbx
  obtain ⟨⟨lRca, lRcb⟩, lRcc, lRcd⟩ := box_cells Rc.out
  clear lRcc lRcd
  obtain ⟨⟨lRfa, lRfb⟩, lRfc, lRfd⟩ := box_cells Rf.out
  clear lRfc lRfd
  go_wp2_with fail
  refine (alike_any _ _ _ _ S2 [] _ Dc.out Df.out).mono ?_
  rintro e w6 ⟨rfl, hb⟩
  clear lRca lRcb lRfa lRfb
  replace BW := Lib.hid (BW.out.trans (hb.mono BW.out.size))
  replace HD := Lib.hid (HD.out.below hb)
  replace HV := Lib.hid (HV.out.below hb)
  replace Rd := Lib.hid (row_keep Rd.out hb)
  replace Df := Lib.hid (Df.out.below hb)
  replace Rf := Lib.hid (row_keep Rf.out hb)
  replace Dc := Lib.hid (Dc.out.below hb)
  replace Rc := Lib.hid (row_keep Rc.out hb)
  replace Dn := Lib.hid (Dn.out.below hb)
  replace Rn := Lib.hid (row_keep Rn.out hb)
  clear hb
  obtain ⟨⟨lRna, lRnb⟩, lRnc, lRnd⟩ := box_cells Rn.out
  clear lRnc lRnd
  obtain ⟨⟨lRda, lRdb⟩, lRdc, lRdd⟩ := box_cells Rd.out
  clear lRdc lRdd
  go_wp2_with fail
  refine (alike_any _ _ _ _ S [] _ Dn.out ⟨HD.out.1, writes_nil _⟩).mono ?_
  rintro e w7 ⟨rfl, hb⟩
  clear lRna lRnb lRda lRdb
  replace BW := Lib.hid (BW.out.trans (hb.mono BW.out.size))
  replace HD := Lib.hid (HD.out.below hb)
  replace HV := Lib.hid (HV.out.below hb)
  replace Rd := Lib.hid (row_keep Rd.out hb)
  replace Df := Lib.hid (Df.out.below hb)
  replace Rf := Lib.hid (row_keep Rf.out hb)
  replace Dc := Lib.hid (Dc.out.below hb)
  replace Rc := Lib.hid (row_keep Rc.out hb)
  replace Dn := Lib.hid (Dn.out.below hb)
  replace Rn := Lib.hid (row_keep Rn.out hb)
  clear hb
  go_wp2_with fail
  refine (heads_any _).mono ?_
  rintro e w8 ⟨rfl, hb⟩
  replace BW := Lib.hid (BW.out.trans (hb.mono BW.out.size))
  replace HD := Lib.hid (HD.out.below hb)
  replace HV := Lib.hid (HV.out.below hb)
  replace Rd := Lib.hid (row_keep Rd.out hb)
  replace Df := Lib.hid (Df.out.below hb)
  replace Rf := Lib.hid (row_keep Rf.out hb)
  replace Dc := Lib.hid (Dc.out.below hb)
  replace Rc := Lib.hid (row_keep Rc.out hb)
  replace Dn := Lib.hid (Dn.out.below hb)
  replace Rn := Lib.hid (row_keep Rn.out hb)
  clear hb
  go_wp2
  go_ret
  exact ⟨rfl, BW.out⟩

theorem diskSafe_law (w : World) (s c : Value) (S : List (List UInt8)) (C : List (Int × List UInt8)) (hd : IsDisk w s c S C) (kv : Value) (l : List Bool) (hv : IsFlags w kv l) :
    Calls Try.prog 3 #[.agg #[s, c], kv] w fun e w' => e = .returned (.bool true) ∧ Below w.heap.size w w' := by
  cases hf : fewB S C with
  | false => exact diskSafe_out w s c S C hd kv l hv (.inl hf)
  | true =>
    cases hk : chkB S C with
    | false => exact diskSafe_out w s c S C hd kv l hv (.inr (.inl ⟨hf, hk⟩))
    | true =>
      by_cases h : 700 < l.length
      · exact diskSafe_out w s c S C hd kv l hv (.inr (.inr ⟨hf, hk, h⟩))
      · exact diskSafe_in w s c S C hd kv l hv hf hk (by omega)
end Go.Proofs.Ytaamjpcpdlanhaa
