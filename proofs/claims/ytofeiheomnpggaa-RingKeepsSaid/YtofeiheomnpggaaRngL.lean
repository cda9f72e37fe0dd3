/- The document's own: get, put; what is not right; SetDesc. -/
import Derived.Test.YtofeiheomnpggaaRngK
namespace Go.Proofs.Ytofeiheomnpggaa
open Go.RowKit Go.Lib

theorem refGet_at (v : Value) (l : List UInt8) (p k y : Nat) (hL : l.length ≤ 8192) (h : p + k ≤ l.length) (h1 : 1 ≤ k) (h8 : k ≤ 8) (hy : numAt l p k = y) (w : World) (hv : IsArg w v l) :
    Calls Try.prog 42 #[.agg #[v], .int .i64 (p : Nat), .int .i64 (k : Nat)] w fun e w' => e = .returned (.int .u64 (y : Nat)) ∧ Below w.heap.size w w' := by
  subst hy
  obtain ⟨y, hy⟩ : ∃ y, y = numAt l p k := ⟨_, rfl⟩
  rw [← hy]
  have HB0 := Lib.hid ((Below.refl w.heap.size w).alloc (Nat.le_refl _) (.cells #[v] 28))
  have HC := Lib.hid (refNum_in (v := v) hL h h1 h8 _ (hv.below HB0.out))
  rw [← hy] at HC
  obtain ⟨va, vc, rfl, _⟩ := hv.shape
  clear hL h h1 h8 hv hy
  go_enter Try.func42, Try.ntmps42
  go_wp2_with fail
  refine (HC.out).mono ?_
  rintro e w1 ⟨rfl, hb⟩
  have HB1 := Lib.hid (HB0.out.trans (hb.mono (by simp)))
  clear hb
  go_wp2
  go_ret
  exact ⟨rfl, HB1.out⟩

set_option maxHeartbeats 1000000 in
theorem refPut_at (v : Value) (l : List UInt8) (p k y : Nat) (hy : y < 18446744073709551616) (hL : l.length ≤ 8192) (h : p + k ≤ l.length) (h1 : 1 ≤ k) (h8 : k ≤ 8) (w : World) (hv : IsArg w v l) :
    Calls Try.prog 44 #[.agg #[v], .int .i64 (p : Nat), .int .i64 (k : Nat), .int .u64 (y : Nat)] w fun e w' => ∃ ra rc, e = .returned (.agg #[.slice ra l.length rc]) ∧ Given w' w.heap.size v l (.slice ra l.length rc) (putAt l p k y) ∧ Below w.heap.size w w' := by
  obtain ⟨G, hG⟩ : ∃ G, G = putAt l p k y := ⟨_, rfl⟩
  have hGl : G.length = l.length := by rw [hG]; exact putAt_length y h
  rw [← hG]
  obtain ⟨va, vc, rfl, _⟩ := hv.shape
  obtain ⟨t1, t2, t3⟩ := two_new w (.slice va l.length vc) (.slice none 0 0) 28 28
  have HB0 := Lib.hid t3
  have HV := Lib.hid hv
  have HM := Lib.hid t1
  have HR := Lib.hid t2
  have HC := Lib.hid (refPutNum_at y hy hL h h1 h8 _ (hv.below HB0.out))
  rw [← hG] at HC
  have HG := Lib.hid hGl
  clear hL h h1 h8 hv hG hGl t1 t2 t3 hy
  go_enter Try.func44, Try.ntmps44
  go_wp2_with fail
  refine (HC.out).mono ?_
  rintro e w1 ⟨r, rfl, hg, hb⟩
  obtain ⟨ra, rc, rfl, _⟩ := (hg.arg (HV.out.below HB0.out) hb).shape
  rw [HG.out] at hg
  rw [HG.out]
  have HGV := Lib.hid (hg.base HB0.out.size)
  have hm := row_keep HM.out hb
  have hr := row_keep HR.out hb
  have HM1 := Lib.hid hm
  have HR1 := Lib.hid hr
  have HB1 := Lib.hid (HB0.out.trans (hb.mono HB0.out.size))
  obtain ⟨c0, g0⟩ := one_cell hm
  obtain ⟨r0, f0⟩ := one_cell hr
  have hlt := (Array.getElem?_eq_some_iff.1 hm).1
  clear hg hb hm hr
  go_wp2
  have hr2 := one_other HR1.out ⟨w.heap.size, 0, none⟩ (.slice ra l.length rc) (by simp)
  refine bodyPost_ret (v := .agg #[.slice ra l.length rc]) (by simp [results, Try.results44, go_sem, r0]) rfl ⟨ra, rc, rfl, ?_, ?_⟩
  · exact (HGV.out.far HM1.out tneMU _).far hr2 tneMU _
  · exact (HB1.out.setCell (by simp) _).setCell (by simp) _
/-- One more number put. -/
theorem refPut_step {w0 W : World} {v : Value} {l G : List UInt8} {ra : Option Addr} {rc : Nat} (hv : IsArg w0 v l) (hb : Below w0.heap.size w0 W) (hg : Given W w0.heap.size v l (.slice ra l.length rc) G) (hl : G.length = l.length) (p k y : Nat) (hy : y < 18446744073709551616) (hL : l.length ≤ 8192) (h : p + k ≤ l.length) (h1 : 1 ≤ k) (h8 : k ≤ 8) :
    Calls Try.prog 44 #[.agg #[.slice ra l.length rc], .int .i64 (p : Nat), .int .i64 (k : Nat), .int .u64 (y : Nat)] W fun e w' => ∃ ra' rc', e = .returned (.agg #[.slice ra' l.length rc']) ∧ Given w' w0.heap.size v l (.slice ra' l.length rc') (putAt G p k y) ∧ (putAt G p k y).length = l.length ∧ Below W.heap.size W w' := by
  have hr : IsArg W (.slice ra l.length rc) G := hg.arg hv hb
  refine (refPut_at _ G p k y hy (by rw [hl]; exact hL) (by rw [hl]; exact h) h1 h8 W hr).mono ?_
  rintro e w' ⟨ra', rc', rfl, h2, h3⟩
  rw [hl] at h2 ⊢
  exact ⟨ra', rc', rfl, hg.step h2 hb.size (fun k => k.below h3), (putAt_length y (by rw [hl]; exact h)).trans hl, h3⟩
end Go.Proofs.Ytofeiheomnpggaa
