/- What mem.same, Put answer, and the document's Same; what was there stays. -/
import Derived.Test.YtofeiheomnpggaaMemB
namespace Go.Proofs.Ytofeiheomnpggaa
open Go.RowKit Go.Lib

/-- A row of one's own stays while an elder cell is written. -/
theorem ownsRow_set {w : World} {base : Nat} {t : TypeId} {size : Nat} {v : Value} {n : Nat} {xs : List Value} (h : w.ownsRow base t size v n xs) (a : Addr) (x : Value) (ha : a.block < base) : (w.setCell a x).ownsRow base t size v n xs := by
  refine ⟨h.1, ?_⟩
  rcases h.2 with h2 | ⟨g, cap, cur, hv, hg, hh, r⟩
  · exact .inl h2
  · refine .inr ⟨g, cap, cur, hv, hg, ?_, r⟩
    have hne : a.block ≠ g := by omega
    simp [World.setCell, Array.getElem?_modify, hne, hh]

/-- The box of a result, made behind the box of an argument: where it stands behind a call. -/
theorem second_box {w w1 : World} {u v : Value} {s t : TypeId} (hb : Below ((w.alloc (.cells #[u] s)).alloc (.cells #[v] t)).heap.size ((w.alloc (.cells #[u] s)).alloc (.cells #[v] t)) w1) :
    w1.cell? ⟨w.heap.size, 0, none⟩ = some u ∧ w1.cell? ⟨w.heap.size + 1, 0, none⟩ = some v ∧ w1.frozen? ⟨w.heap.size + 1, 0, none⟩ = false ∧ w.heap.size + 1 < w1.heap.size := by
  have h0 := hb.block w.heap.size (by simp; omega)
  have h1 := hb.block (w.heap.size + 1) (by simp)
  have h2 : ((w.alloc (.cells #[u] s)).alloc (.cells #[v] t)).heap[w.heap.size + 1]? = some (.cells #[v] t) := by simpa using heap_alloc_new (w.alloc (.cells #[u] s)) (.cells #[v] t)
  have h3 : ((w.alloc (.cells #[u] s)).alloc (.cells #[v] t)).heap[w.heap.size]? = some (.cells #[u] s) := by
    rw [heap_alloc_old (w.alloc (.cells #[u] s)) _ (by simp)]
    exact heap_alloc_new w _
  rw [h2] at h1
  rw [h3] at h0
  have h4 := hb.size
  simp at h4
  refine ⟨?_, ?_, ?_, by omega⟩
  · unfold World.cell?; rw [h0]; rfl
  · unfold World.cell?; rw [h1]; rfl
  · unfold World.frozen?; rw [h1]; rfl

set_option maxHeartbeats 1000000 in
theorem same_any (v : Value) (l : List UInt8) (w : World) (hv : IsArg w v l) (hl : l.length ≤ 140737488355328) :
    Calls Try.prog 67 #[.agg #[v]] w fun e w' => ∃ r, e = .returned (.agg #[r]) ∧ w'.ownsRow w.heap.size 5 1 r l.length (byteCells l) ∧ Below w.heap.size w w' := by
  have HV := Lib.hid hv
  have HB := Lib.hid (((Below.refl w.heap.size w).alloc (Nat.le_refl _) (.cells #[v] 28)).alloc (by simp) (.cells #[.slice none 0 0] 28))
  obtain ⟨a, c, rfl, _⟩ := hv.shape
  clear hv
  go_enter Try.func67, Try.ntmps67
  go_wp2_with fail
  refine (clone_any _ _ _ (HV.out.below HB.out) hl).mono ?_
  rintro e w1 ⟨r, rfl, hr, hb⟩
  have HB1 := Lib.hid (HB.out.trans (hb.mono (by simp; omega)))
  have HR := Lib.hid hr
  obtain ⟨_, hold, hfz, hlt⟩ := second_box hb
  obtain ⟨ra, rc, rfl, _⟩ := (isArg_of_owns hr).shape
  clear hr hb
  go_wp2
  refine bodyPost_ret (v := .agg #[.slice ra l.length rc]) (by simp [results, Try.results67, go_sem, hold]) rfl ⟨_, rfl, ?_, ?_⟩
  · exact ownsRow_base (ownsRow_set HR.out _ _ (by simp)) (by simp; omega)
  · exact HB1.out.setCell (by simp) _

theorem three_cells (w : World) (a b c : Value) (t : TypeId) : (w.alloc (.cells #[a, b, c] t)).cell? ⟨w.heap.size, 0, none⟩ = some a ∧ (w.alloc (.cells #[a, b, c] t)).cell? ⟨w.heap.size, 1, none⟩ = some b ∧ (w.alloc (.cells #[a, b, c] t)).cell? ⟨w.heap.size, 2, none⟩ = some c := by
  have h := heap_alloc_new w (.cells #[a, b, c] t)
  refine ⟨?_, ?_, ?_⟩
  all_goals (unfold World.cell?; rw [h]; rfl)

set_option maxHeartbeats 2000000 in
theorem put_any (v : Value) (l : List UInt8) (u : Value) (m : List UInt8) (w : World) (hv : IsArg w v l) (hu : IsArg w u m) (x : Int) (hl : l.length ≤ 140737488355328) (_ : m.length ≤ 140737488355328) :
    Calls Try.prog 68 #[.agg #[v], .int .i64 x, u] w fun e w' => ∃ r, e = .returned (.tuple #[.agg #[r], .int .i64 (faultOf l.length x m.length)]) ∧ w'.ownsRow w.heap.size 5 1 r (putOf l x m).length (byteCells (putOf l x m)) ∧ Below w.heap.size w w' := by
  have HV := Lib.hid hv
  have HU := Lib.hid hu
  have HL := Lib.hid hl
  have HB := Lib.hid (((Below.refl w.heap.size w).alloc (Nat.le_refl _) (.cells #[v] 28)).alloc (by simp) (.cells #[.slice none 0 0] 28))
  obtain ⟨a, c, rfl, _⟩ := hv.shape
  obtain ⟨ua, uc, rfl, _⟩ := hu.shape
  obtain ⟨f, hf⟩ : ∃ f, f = faultOf l.length x m.length := ⟨_, rfl⟩
  obtain ⟨g, hg⟩ : ∃ g, g = putOf l x m := ⟨_, rfl⟩
  rw [← hf, ← hg]
  have HF := Lib.hid hf
  have HG := Lib.hid hg
  have hgl : g.length = l.length := by rw [hg]; exact putOf_length _ _ _
  have HGL := Lib.hid hgl
  have HMX := Lib.hid (show l.length ≤ maxLen by unfold maxLen; omega)
  clear hv hu hgl
  by_cases h0 : f = 0
  · subst h0
    obtain ⟨k0, k1, k2, k3, k4⟩ := fault_zero hf.symm
    have hg2 : g = l.take x.toNat ++ m ++ l.drop (x.toNat + m.length) := by rw [hg]; exact putOf_some hf.symm
    obtain ⟨x, rfl⟩ := Int.eq_ofNat_of_zero_le k1
    have hxy : x + m.length ≤ l.length := by omega
    rw [Int.toNat_natCast] at hg2
    have HG2 := Lib.hid hg2
    have HXY := Lib.hid hxy
    clear hf hg hg2 k1 k2 k3 k4 hxy hl
    go_enter Try.func68, Try.ntmps68
    go_wp2_with fail
    refine (fault_any _ _ _ HMX.out _ _ _).mono ?_
    rintro e w1 ⟨rfl, hb⟩
    rw [← HF.out]
    have HB1 := Lib.hid hb
    obtain ⟨hcl, _, _, _⟩ := second_box hb
    clear hb
    have HB1w := Lib.hid (HB.out.trans (HB1.out.mono (by simp; omega)))
    go_wp2_with fail
    refine (parts_any _ _ _ (HV.out.below HB1w.out) _ _ HXY.out k0).mono ?_
    rintro e w2 ⟨p, q, r, rfl, hp, _, hr, hb2⟩
    have HB2 := Lib.hid (HB1.out.trans (hb2.mono HB1.out.size))
    have HB2w := Lib.hid (HB.out.trans (HB2.out.mono (by simp; omega)))
    obtain ⟨pa, pn, pc, rfl, hpn⟩ := hp.shape2
    obtain ⟨ra, rn, rc, rfl, hrn⟩ := hr.shape2
    clear hpn hrn
    have HP := Lib.hid hp
    have HR := Lib.hid hr
    clear hp hr hb2 hcl
    have h3 := three_cells w2 (.slice pa pn pc) (.slice ua m.length uc) (.slice ra rn rc) 26
    have H3 := Lib.hid h3
    clear h3
    have HB3 := Lib.hid (HB2w.out.alloc HB2w.out.size (.cells #[.slice pa pn pc, .slice ua m.length uc, .slice ra rn rc] 26))
    have HB3l := Lib.hid (((Below.refl w2.heap.size w2).alloc (Nat.le_refl _) (.cells #[.slice pa pn pc, .slice ua m.length uc, .slice ra rn rc] 26)))
    go_wp2_with fail
    refine (concat_three H3.out.1 H3.out.2.1 H3.out.2.2 (HP.out.below HB3l.out) (HU.out.below HB3.out) (HR.out.below HB3l.out) (by rw [← HG2.out, HGL.out]; exact HL.out)).mono ?_
    rintro e w3 ⟨s, rfl, hs, hb4⟩
    rw [← HG2.out] at hs
    have HS := Lib.hid hs
    have HB4 := Lib.hid (HB2.out.trans ((HB3l.out.trans (hb4.mono (by simp))).mono HB2.out.size))
    have HB4w := Lib.hid (HB.out.trans (HB4.out.mono (by simp; omega)))
    obtain ⟨_, hold, hfz, hlt⟩ := second_box HB4.out
    obtain ⟨sa, sc, rfl, _⟩ := (isArg_of_owns hs).shape
    clear hs hb4
    go_wp2
    refine bodyPost_ret (v := .tuple #[.agg #[.slice sa g.length sc], .int .i64 0]) (by simp [results, Try.results68, go_sem, hold]) rfl ⟨_, rfl, ?_, ?_⟩
    · exact ownsRow_base (ownsRow_set HS.out _ _ (by have := HB2.out.size; simp at this ⊢; omega)) (by have := HB2w.out.size; simp; omega)
    · exact HB4w.out.setCell (by simp) _
  · have hg2 : g = l := by rw [hg]; exact putOf_none (by rw [← hf]; exact h0)
    subst hg2
    clear hf hg
    go_enter Try.func68, Try.ntmps68
    go_wp2_with fail
    refine (fault_any _ _ _ HMX.out _ _ _).mono ?_
    rintro e w1 ⟨rfl, hb⟩
    rw [← HF.out]
    have HB1 := Lib.hid hb
    obtain ⟨hcl, _, _, _⟩ := second_box hb
    clear hb
    have HB1w := Lib.hid (HB.out.trans (HB1.out.mono (by simp; omega)))
    go_wp2_with fail
    refine (same_any _ _ _ (HV.out.below HB1w.out) HL.out).mono ?_
    rintro e w2 ⟨r, rfl, hr, hb2⟩
    have HB2 := Lib.hid (HB1.out.trans (hb2.mono HB1.out.size))
    have HB2w := Lib.hid (HB.out.trans (HB2.out.mono (by simp; omega)))
    have HR := Lib.hid hr
    obtain ⟨_, hold, hfz, hlt⟩ := second_box HB2.out
    obtain ⟨ra, rc, rfl, _⟩ := (isArg_of_owns hr).shape
    clear hr hb2 hcl
    go_wp2
    refine bodyPost_ret (v := .tuple #[.agg #[.slice ra g.length rc], .int .i64 f]) (by simp [results, Try.results68, go_sem, hold]) rfl ⟨_, rfl, ?_, ?_⟩
    · exact ownsRow_base (ownsRow_set HR.out _ _ (by have := HB1.out.size; simp at this ⊢; omega)) HB1w.out.size
    · exact HB2w.out.setCell (by simp) _

/-- n zeros. -/
theorem zeros_bytes (k : Nat) : zeros k = byteCells (List.replicate k 0) := by simp [zeros, byteCells]

set_option maxHeartbeats 1000000 in
/-- Two memories of the same bytes. -/
theorem alike_any (u v : Value) (l : List UInt8) (w : World) (hu : IsArg w u l) (hv : IsArg w v l) :
    Calls Try.prog 18 #[.agg #[u], .agg #[v]] w fun e w' => e = .returned (.bool true) ∧ Below w.heap.size w w' := by
  have hb : Below w.heap.size w ((w.alloc (.cells #[u] 28)).alloc (.cells #[v] 28)) := ((Below.refl w.heap.size w).alloc (Nat.le_refl _) _).alloc (by simp) _
  have HB := Lib.hid hb
  have h1 := conv_bytes (hu.below hb).1
  have h2 := conv_bytes (hv.below hb).1
  obtain ⟨ua, un, uc, rfl, hun⟩ := hu.shape2
  obtain ⟨va, vn, vc, rfl, hvn⟩ := hv.shape2
  clear hu hv hb hun hvn
  go_enter Try.func18, Try.ntmps18
  go_wp2
  go_ret
  exact ⟨rfl, HB.out⟩
end Go.Proofs.Ytofeiheomnpggaa
