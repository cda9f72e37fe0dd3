/- What the document's own kept, Flush and Crash answer. -/
import Derived.Test.YtaamjpcpdlanhaaDskX
import Derived.Test.YtaamjpcpdlanhaaOwn
namespace Go.Proofs.Ytaamjpcpdlanhaa
open Go.RowKit Go.Lib

/-- A row of the call's own whose elements are what came in. -/
def OwnLine (B : Nat) (w0 W : World) (v : Value) (S : List (List UInt8)) : Prop :=
  ∃ Us : List Value, W.ownsRow B 35 1 v S.length Us ∧ ∀ (i : Nat) (V : Value), Us[i]? = some V → IsArg w0 V (S.getD i [])
theorem OwnLine.sects {B : Nat} {w0 W : World} {v : Value} {S : List (List UInt8)} (h : OwnLine B w0 W v S) (hb : Below w0.heap.size w0 W) : Sects W v S := by
  obtain ⟨Us, h1, h2⟩ := h
  refine ⟨Us, by have := h1.1; omega, held_of_owns h1, fun i V l hV hl => ?_⟩
  have h3 := (h2 i V hV).below hb
  have h4 : S.getD i [] = l := by rw [List.getD_eq_getElem?_getD, hl]; rfl
  rw [h4] at h3
  exact h3
theorem OwnLine.set {B : Nat} {w0 W : World} {v : Value} {S : List (List UInt8)} (h : OwnLine B w0 W v S) (a : Addr) (x : Value) (ha : a.block < B) : OwnLine B w0 (W.setCell a x) v S := by
  obtain ⟨Us, h1, h2⟩ := h
  exact ⟨Us, ownsRow_setCell_below h1 ha x, h2⟩
theorem OwnLine.base {B B' : Nat} {w0 W : World} {v : Value} {S : List (List UInt8)} (h : OwnLine B w0 W v S) (hb : B' ≤ B) : OwnLine B' w0 W v S := by
  obtain ⟨Us, h1, h2⟩ := h
  exact ⟨Us, ownsRow_base h1 hb, h2⟩
theorem OwnLine.form {B : Nat} {w0 W : World} {v : Value} {S : List (List UInt8)} (h : OwnLine B w0 W v S) : ∃ a n c, v = .slice a n c := by
  obtain ⟨Us, h1, _⟩ := h
  rcases h1.2 with ⟨rfl, _⟩ | ⟨g, cap, cur, rfl, _⟩
  · exact ⟨_, _, _, rfl⟩
  · exact ⟨_, _, _, rfl⟩
theorem slices_one {w : World} {Vs : List Value} {S : List (List UInt8)} (hl : Vs.length = S.length) (h : ∀ (i : Nat) (V : Value) (l : List UInt8), Vs[i]? = some V → S[i]? = some l → IsArg w V l) : ∀ u ∈ Vs, u.oneCell' = true := by
  intro u hu
  obtain ⟨i, hi, rfl⟩ := List.mem_iff_getElem.1 hu
  obtain ⟨_, _, _, h1, _⟩ := (h i _ _ (List.getElem?_eq_getElem hi) (List.getElem?_eq_getElem (by omega))).shape3
  rw [h1]
  rfl
def tellT (al : Bool) (l : List Bool) : Nat → Bool := fun k => al || keptT l k
/-- The box's cells and a write's, where another block is written. -/
theorem far4 {W : World} {g q b i j k : Nat} {x u v y z : Value} (h1 : g ≠ q) (h2 : b ≠ q) (h : W.cell? ⟨g, 0, none⟩ = some u ∧ W.cell? ⟨g, 1, none⟩ = some v ∧ W.cell? ⟨b, j, none⟩ = some y ∧ W.cell? ⟨b, k, none⟩ = some z) :
    (W.setCell ⟨q, i, none⟩ x).cell? ⟨g, 0, none⟩ = some u ∧ (W.setCell ⟨q, i, none⟩ x).cell? ⟨g, 1, none⟩ = some v ∧ (W.setCell ⟨q, i, none⟩ x).cell? ⟨b, j, none⟩ = some y ∧ (W.setCell ⟨q, i, none⟩ x).cell? ⟨b, k, none⟩ = some z := by
  rw [far_cell _ _ h1, far_cell _ _ h1, far_cell _ _ h2, far_cell _ _ h2]
  exact h

/-- One element of the row is what a write says. -/
theorem OwnLine.put {B : Nat} {w0 W : World} {S : List (List UInt8)} {C : List (Int × List UInt8)} {T : Nat → Bool} {g n cap k i : Nat} {V : Value} (h : OwnLine B w0 W (.slice (some ⟨g, 0, none⟩) n cap) (after S C T k)) (hT : T k = true) (hn : n = S.length) (hi : i < S.length) (hz : (i : Int) = (C.getD k (0, [])).1) (hV : IsArg w0 V (C.getD k (0, [])).2) :
    OwnLine B w0 (W.setCell ⟨g, i, none⟩ V) (.slice (some ⟨g, 0, none⟩) n cap) (after S C T (k + 1)) := by
  obtain ⟨Us, h1, h2⟩ := h
  rw [after_length, ← hn] at h1
  refine ⟨Us.set i V, ?_, fun j U hU => ?_⟩
  · rw [after_length, ← hn]
    exact (h1.stored i V).1
  · by_cases he : j = i
    · subst he
      rw [List.getElem?_set_self (by have := h1.1; omega)] at hU
      cases hU
      rw [after_hit S C T k j hT hz.symm hi]
      exact hV
    · rw [List.getElem?_set_ne (fun e => he e.symm)] at hU
      rw [after_miss S C T k j (by omega) (by omega)]
      exact h2 j U hU

set_option maxHeartbeats 4000000 in
set_option maxRecDepth 100000 in
theorem refKept_any (w0 : World) (s c : Value) (S : List (List UInt8)) (C : List (Int × List UInt8)) (hd : IsDisk w0 s c S C) (hS : Inside S C) (kv : Value) (l : List Bool) (hv : IsFlags w0 kv l) (al : Bool) (w : World) (hw : Below w0.heap.size w0 w) :
    Calls Try.prog 36 #[.agg #[s, c], kv, .bool al] w fun e w' => ∃ sv, e = .returned (.agg #[sv, .slice none 0 0]) ∧ OwnLine w.heap.size w0 w' sv (settledOf S C (tellT al l)) ∧ Below w.heap.size w w' := by
  have HD := Lib.hid hd
  obtain ⟨Vs, hVl, hVh, hVa⟩ := hd.1
  obtain ⟨a, ca, a1, c1, rfl, rfl, _, _⟩ := hd.shape
  obtain ⟨ka, kc, rfl, hkm⟩ := Held.shape hv
  obtain ⟨s1, s2, s3⟩ := hS
  obtain ⟨n, hSn⟩ : ∃ n, n = S.length := ⟨_, rfl⟩
  obtain ⟨m, hCm⟩ : ∃ m, m = C.length := ⟨_, rfl⟩
  obtain ⟨kn, hkn⟩ : ∃ m, m = l.length := ⟨_, rfl⟩
  have HV := Lib.hid hv
  have HVH := Lib.hid hVh
  have HVA := Lib.hid hVa
  have HVL := Lib.hid hVl
  rw [← hSn] at s1
  rw [← hCm] at s2
  rw [← hSn, ← hCm] at HD
  rw [← hSn] at HVH HVL
  rw [← hkn] at HV hkm
  rw [← hSn, ← hCm, ← hkn]
  unfold maxLen at hkm
  have HSn := Lib.hid hSn
  have HCm := Lib.hid hCm
  have HKN := Lib.hid hkn
  have HS3 := Lib.hid s3
  have HW := Lib.hid hw
  have HOC := Lib.hid (slices_one hVl hVa)
  obtain ⟨i0, hi, hz0, hz1, hz2⟩ := info_parts infoS
  obtain ⟨W1, hW1⟩ : ∃ W, W = ((w.alloc (.cells #[.slice a n ca, .slice a1 m c1] 25)).alloc (.cells #[.slice none 0 0, .slice none 0 0] 25)).alloc (.cells #[] 35) := ⟨_, rfl⟩
  have hb0 := (((Below.refl w.heap.size w).alloc (Nat.le_refl _) (.cells #[.slice a n ca, .slice a1 m c1] 25)).alloc (by simp) (.cells #[.slice none 0 0, .slice none 0 0] 25)).alloc (by simp; omega) (.cells #[] 35)
  have hown0 : W1.ownsRow (w.heap.size + 2) 35 1 (.slice (some ⟨w.heap.size + 2, 0, none⟩) 0 0) 0 [] := by
    refine owns_empty (cur := #[]) ?_ (by decide) rfl _ (Nat.le_refl _)
    rw [hW1]
    simpa using heap_alloc_new ((w.alloc (.cells #[.slice a n ca, .slice a1 m c1] 25)).alloc (.cells #[.slice none 0 0, .slice none 0 0] 25)) (.cells #[] 35)
  rw [← hW1] at hb0
  have hbW : Below ((w.alloc (.cells #[.slice a n ca, .slice a1 m c1] 25)).alloc (.cells #[.slice none 0 0, .slice none 0 0] 25)).heap.size ((w.alloc (.cells #[.slice a n ca, .slice a1 m c1] 25)).alloc (.cells #[.slice none 0 0, .slice none 0 0] 25)) W1 := by rw [hW1]; exact (Below.refl _ _).alloc (Nat.le_refl _) _
  obtain ⟨hrow0, hrow1, hlt1⟩ := boxes_rows hbW
  have HB0 := Lib.hid hb0
  have HO0 := Lib.hid hown0
  have HR0 := Lib.hid hrow0
  have HR1 := Lib.hid hrow1
  have HV1 := Lib.hid (HVH.out.below (HW.out.trans (hb0.mono HW.out.size)))
  have HSZ := Lib.hid (show w.heap.size + 1 < W1.heap.size ∧ w.heap.size + 2 ≤ W1.heap.size from ⟨hlt1, by omega⟩)
  clear hd hVl hVh hVa hv hSn hCm hkn s3 hw hb0 hown0 hbW hrow0 hrow1 hlt1
  subst hW1
  go_enter Try.func36, Try.ntmps36
  go_wp2_with (at_builtin; refine wpList_append_held _ rfl _ _ 22 rfl (w.heap.size + 2) 35 i0 (.slice none 0 0) 1 24 Try.underlying22 hi hz0 hz1 hz2 rfl (by decide) _ _ _ rfl HO0.out _ n Vs rfl HV1.out ?c1 HOC.out ?c3 ?c4 ?c5 ?_)
  case c1 => rw [HVL.out, Nat.mul_one]
  case c3 => unfold maxLen; omega
  case c4 => omega
  case c5 => exact HSZ.out.2
  intro out w1 hown hgrow
  have hg0 : ∀ k, (Value.slice (some ⟨w.heap.size + 2, 0, none⟩) 0 0).ownBlock = some k → k = w.heap.size + 2 := fun k hk => by simpa [Value.ownBlock] using hk.symm
  have HBw := Lib.hid (HB0.out.grown hgrow HB0.out.size (fun k hk => by have := hg0 k hk; omega))
  have hr0 := (hgrow.block w.heap.size (Array.getElem?_eq_some_iff.1 HR0.out).1 (fun e => by have := hg0 _ e.symm; omega)).trans HR0.out
  have hr1 := (hgrow.block (w.heap.size + 1) (Array.getElem?_eq_some_iff.1 HR1.out).1 (fun e => by have := hg0 _ e.symm; omega)).trans HR1.out
  have HRA := Lib.hid hr0
  have HRB := Lib.hid hr1
  have hsz1 : w.heap.size + 1 < w1.heap.size := Nat.lt_of_lt_of_le HSZ.out.1 hgrow.size
  obtain ⟨oa, on, oc, rfl⟩ : ∃ a n c, out = .slice a n c := by
    rcases hown.2 with ⟨rfl, _⟩ | ⟨g, cap, cur, rfl, _⟩
    · exact ⟨_, _, _, rfl⟩
    · exact ⟨_, _, _, rfl⟩
  have HO := Lib.hid hown
  obtain ⟨hx1, hx2⟩ := (box_cells hr0).1
  clear hown hgrow hg0 hr0 hr1 hx1
  go_wp2
  clear hx2
  go_loopw [8] (fun x wr => ∃ k : Nat, k ≤ m ∧ x = .int .i64 k ∧ OwnLine (w.heap.size + 2) w0 wr (.slice oa on oc) (after S C (tellT al l) k) ∧ wr.heap[w.heap.size]? = some (.cells #[.slice a n ca, .slice a1 m c1] 25 (0, 0)) ∧ wr.heap[w.heap.size + 1]? = some (.cells #[.slice none 0 0, .slice none 0 0] 25 (0, 0)) ∧ Below w.heap.size w wr) (fun x _ => m - (intOf x).toNat)
  case atStart =>
    refine ⟨0, Nat.zero_le _, rfl, ⟨Vs, by show w1.ownsRow _ _ _ _ S.length _; rw [← HSn.out]; exact HO.out, fun i V hV => ?_⟩, HRA.out, HRB.out, HBw.out⟩
    have hi2 : i < S.length := by have := (List.getElem?_eq_some_iff.1 hV).1; have := HVL.out; have := HSn.out; omega
    exact HVA.out i V _ hV (by show S[i]? = some (S.getD i []); simp [List.getD_eq_getElem?_getD, hi2])
  case round =>
    obtain ⟨k, hk, rfl, hline, hra, hrb, hbw⟩ := hrel
    have HLN := Lib.hid hline
    have HRa := Lib.hid hra
    have HRb := Lib.hid hrb
    have HBk := Lib.hid hbw
    have HBk0 := Lib.hid (HW.out.trans (hbw.mono HW.out.size))
    obtain ⟨hx1, hx2⟩ := (box_cells hra).1
    clear hline hra hrb hbw
    by_cases hlt : k < m
    · obtain ⟨b, off, y, va, vn, vc, rfl, hcl1, hcl2, hy, hvn, hva⟩ := write_shape (HD.out).2 k (by rw [← HCm.out]; exact hlt)
      have hyy : 0 ≤ y ∧ y < (S.length : Int) := by
        have h := HS3.out _ (getD_mem C k (0, []) (by rw [← HCm.out]; exact hlt))
        rw [← hy] at h
        exact h
      obtain ⟨i, rfl⟩ := Int.eq_ofNat_of_zero_le hyy.1
      have HIS := Lib.hid (show i < S.length by omega)
      have hin : i < n := by have := HSn.out; omega
      have hb0 : b < w0.heap.size := World.block_lt_of_cell? _ _ hcl1
      have hbw : b < w.heap.size := Nat.lt_of_lt_of_le hb0 HW.out.size
      have HY := Lib.hid hy
      have HVa := Lib.hid hva
      have hd1 := kept hcl1 HBk0.out
      have hd2 := kept hcl2 HBk0.out
      have k1 : (0 : Int) ≤ (k : Int) := by omega
      have k2 : (k : Int) < (m : Int) := by omega
      obtain ⟨Us, hUs, hUa⟩ := HLN.out
      have HUS := Lib.hid hUs
      have HUA := Lib.hid hUa
      obtain ⟨g, cap, cur, hov, hgB, hgh, _, _⟩ := owns_shape hUs (by rw [after_length]; omega)
      injection hov with hoa hon hoc
      rw [after_length, ← HSn.out] at hon
      subst hoa
      subst hon
      subst hoc
      obtain ⟨u, hu⟩ : ∃ u, Us[i]? = some u := ⟨Us[i]'(by have := hUs.1; rw [after_length] at this; omega), List.getElem?_eq_getElem _⟩
      have hcg : wr.cell? ⟨g, i, none⟩ = some u := by
        rw [after_length, ← HSn.out] at hUs
        rw [hUs.cellAt i (by omega)]; exact hu
      have hfg : wr.frozen? ⟨g, i, none⟩ = false := by
        rw [after_length, ← HSn.out] at hUs
        exact hUs.frozenAt i
      have i1 : (0 : Int) ≤ (i : Int) := by omega
      have i2 : (i : Int) < (on : Int) := by omega
      have hn1 : w.heap.size ≠ g := by omega
      have hn2 : b ≠ g := by omega
      have hways : (tellT al l k = true ∧ (al = true ∨ (al = false ∧ ∃ kb koff, ka = some ⟨kb, koff, none⟩ ∧ k < kn ∧ wr.cell? ⟨kb, koff + k, none⟩ = some (.bool true)))) ∨ (tellT al l k = false ∧ al = false ∧ ((¬ k < kn) ∨ ∃ kb koff, ka = some ⟨kb, koff, none⟩ ∧ k < kn ∧ wr.cell? ⟨kb, koff + k, none⟩ = some (.bool false))) := by
        unfold tellT keptT
        cases al with
        | true => exact .inl ⟨rfl, .inl rfl⟩
        | false =>
          by_cases hkk : k < kn
          · obtain ⟨kb, koff, e1, e2⟩ := (HV.out.below HBk0.out).at k (by rw [← HKN.out]; exact hkk)
            cases hfl : l.getD k false with
            | true => rw [hfl] at e2; exact .inl ⟨rfl, .inr ⟨rfl, kb, koff, e1, hkk, e2⟩⟩
            | false => rw [hfl] at e2; exact .inr ⟨rfl, rfl, .inr ⟨kb, koff, e1, hkk, e2⟩⟩
          · refine .inr ⟨?_, rfl, .inl hkk⟩
            rw [List.getD_eq_getElem?_getD, List.getElem?_eq_none (by rw [← HKN.out]; omega)]
            rfl
      clear hyy hy hvn hva hcl1 hcl2 hUs hUa hgh hu
      rcases hways with ⟨hT, hal⟩ | ⟨hT, rfl, hal⟩
      · have HT := Lib.hid hT
        clear hT
        rcases hal with rfl | ⟨rfl, kb, koff, rfl, hkk, hkc⟩
        all_goals
          go_wp2_with fail
          go_region_held3 (fun w' => w'.cell? ⟨w.heap.size, 0, none⟩ = some (.slice a on ca) ∧ w'.cell? ⟨w.heap.size, 1, none⟩ = some (.slice (some ⟨b, off, none⟩) m c1) ∧ w'.cell? ⟨b, off + k * 2, none⟩ = some (.int .i64 i) ∧ w'.cell? ⟨b, off + k * 2 + 1, none⟩ = some (.slice va vn vc)) (first | exact ⟨hx1, hx2, hd1, hd2⟩ | exact far4 hn1 hn2 ⟨hx1, hx2, hd1, hd2⟩) (fail)
          go_wp2
          go_roundw
          case rel =>
            refine ⟨k + 1, by omega, by go_num, ?_, row_far HRa.out _ _ hn1, row_far HRb.out _ _ (by show w.heap.size + 1 ≠ g; omega), (HBk.out.setCell (by show w.heap.size ≤ g; omega) _).drew⟩
            exact HLN.out.put HT.out HSn.out HIS.out HY.out HVa.out
          case measure => simp [intOf]; omega
      · have HT := Lib.hid hT
        clear hT
        rcases hal with hkk | ⟨kb, koff, rfl, hkk, hkc⟩
        all_goals
          go_wp2
          go_roundw
          case rel =>
            refine ⟨k + 1, by omega, by go_num, ?_, HRa.out, HRb.out, HBk.out⟩
            have h : after S C (tellT false l) (k + 1) = after S C (tellT false l) k := by
              show (if tellT false l k = true then _ else _) = _
              rw [if_neg (by rw [HT.out]; decide)]
            rw [h]
            exact HLN.out
          case measure => simp [intOf]; omega
    · obtain rfl : k = m := by omega
      obtain ⟨⟨hr1, hr2⟩, hz1, hz2⟩ := box_cells HRb.out
      have hlt9 : w.heap.size + 1 < wr.heap.size := (Array.getElem?_eq_some_iff.1 HRb.out).1
      go_wp2
      have hs9 := (HLN.out.set ⟨w.heap.size + 1, 0, none⟩ (.slice oa on oc) (by show w.heap.size + 1 < w.heap.size + 2; omega)).set ⟨w.heap.size + 1, 1, none⟩ (.slice none 0 0) (by show w.heap.size + 1 < w.heap.size + 2; omega)
      have hb9 := (HBk.out.setCell (p := ⟨w.heap.size + 1, 0, none⟩) (by show w.heap.size ≤ w.heap.size + 1; omega) (.slice oa on oc)).setCell (p := ⟨w.heap.size + 1, 1, none⟩) (by show w.heap.size ≤ w.heap.size + 1; omega) (.slice none 0 0)
      refine bodyPost_ret (v := .agg #[.slice oa on oc, .slice none 0 0]) (by simp [results, Try.results36, go_sem, hr1, hr2]) rfl ⟨_, rfl, ?_, hb9⟩
      have h := hs9.base (B' := w.heap.size) (by omega)
      rw [HCm.out] at h
      exact h
end Go.Proofs.Ytaamjpcpdlanhaa
