/- Where a ring's two parts lie, its size, a place; the document's own. -/
import Derived.Test.YtofeiheomnpggaaRngA
namespace Go.Proofs.Ytofeiheomnpggaa
open Go.RowKit Go.Lib

theorem availPart_any (B N p q : Nat) (hp : B + 16 * N + 2 = p) (hq : B + 16 * N + 4 = q) (hB : B ≤ 8192) (hN : N ≤ 16) (w : World) :
    Calls Try.prog 34 #[.int .i64 (B : Nat), .int .i64 (N : Nat)] w fun e w' => ∃ a b, e = .returned (.agg #[.int .i64 (p : Nat), .func (.func 64) #[] #[.pointer (some ⟨a, 0, none⟩), .pointer (some ⟨b, 0, none⟩)]]) ∧ RowAt w' a b (q : Nat) 2 ∧ Below w.heap.size w w' := by
  obtain ⟨t, ht⟩ : ∃ t : Nat, t = B + 16 * N := ⟨_, rfl⟩
  have HT := Lib.hid ht
  have HP := Lib.hid hp
  have HQ := Lib.hid hq
  have HBB := Lib.hid hB
  have HNN := Lib.hid hN
  have HB0 := Lib.hid ((Below.refl w.heap.size w).alloc (Nat.le_refl _) (.cells #[.int .i64 0, .nilFunc] 66))
  clear ht hp hq hB hN
  go_enter Try.func34, Try.ntmps34
  go_wp2_with fail
  refine (descs_any _ _).mono ?_
  rintro e w1 ⟨a, b, rfl, hr, hb⟩
  have HR := Lib.hid hr
  have HROW := Lib.hid (row_keep (heap_alloc_new w (.cells #[.int .i64 0, .nilFunc] 66)) hb)
  have HB1 := Lib.hid (HB0.out.trans (hb.mono (by simp)))
  clear hr hb
  go_wp2_with fail
  refine (row1_any a b _ _ (N : Nat) ((16 * N : Nat) : Int) (t : Nat) (by omega) (by have := HT.out; omega) (by have := HNN.out; omega) (by have := HT.out; have := HNN.out; have := HBB.out; omega) _ HR.out).mono ?_
  rintro e w2 ⟨rfl, rfl⟩
  go_wp2_with fail
  refine (partAt_any (t : Nat) 2 (p : Nat) (q : Nat) (by have := HT.out; have := HP.out; omega) (by have := HP.out; have := HQ.out; omega) (by omega) (by have := HT.out; have := HNN.out; have := HBB.out; omega) _).mono ?_
  rintro e w3 ⟨c, d, rfl, hr, hb⟩
  have HR2 := Lib.hid hr
  have hrow := row_keep HROW.out hb
  have HROW2 := Lib.hid hrow
  obtain ⟨hc0, hc1, hz0, hz1⟩ := cells_two hrow
  have HB2 := Lib.hid (HB1.out.trans (hb.mono HB1.out.size))
  clear hr hb hrow
  go_wp2
  refine bodyPost_ret (v := .agg #[.int .i64 (p : Nat), .func (.func 64) #[] #[.pointer (some ⟨c, 0, none⟩), .pointer (some ⟨d, 0, none⟩)]]) (by simp [results, Try.results34, go_sem, hc0, hc1]) rfl ⟨_, _, rfl, ?_, ?_⟩
  · exact ⟨row_put2 HR2.out.1 HROW2.out tne, row_put2 HR2.out.2 HROW2.out tne⟩
  · exact (HB2.out.setCell (by simp) _).setCell (by simp) _

set_option maxRecDepth 100000 in
theorem usedPart_any (B N p q : Nat) (hp : B + secN N + 2 = p) (hq : B + secN N + 4 = q) (hB : B ≤ 8192) (hN : N ≤ 16) (w : World) :
    Calls Try.prog 30 #[.int .i64 (B : Nat), .int .i64 (N : Nat)] w fun e w' => ∃ a b, e = .returned (.agg #[.int .i64 (p : Nat), .func (.func 64) #[] #[.pointer (some ⟨a, 0, none⟩), .pointer (some ⟨b, 0, none⟩)]]) ∧ RowAt w' a b (q : Nat) 8 ∧ Below w.heap.size w w' := by
  obtain ⟨s, hs⟩ : ∃ s : Nat, s = 18 * N + 4 := ⟨_, rfl⟩
  obtain ⟨x, hx⟩ : ∃ x : Nat, x = (18 * N + 7) / 4 := ⟨_, rfl⟩
  obtain ⟨y, hy⟩ : ∃ y : Nat, y = secN N := ⟨_, rfl⟩
  obtain ⟨t, ht⟩ : ∃ t : Nat, t = B + y := ⟨_, rfl⟩
  have hxy : y = x * 4 := by rw [hy, hx]; rfl
  rw [← hy] at hp hq
  have HS := Lib.hid hs
  have HP := Lib.hid hp
  have HQ := Lib.hid hq
  have HBB := Lib.hid hB
  have HNN := Lib.hid hN
  have HT := Lib.hid ht
  have hy2 : y ≤ 300 := by omega
  have HY := Lib.hid hy2
  obtain ⟨v, hv⟩ : ∃ v : Nat, v = s + 3 := ⟨_, rfl⟩
  have e1 : (s : Int) + 4 - 1 = (v : Nat) := by omega
  have e2 : (v : Int) / 4 = (x : Nat) := by omega
  have v1 : v ≤ 1000 := by omega
  have e3 : (x : Int) * 4 = (y : Nat) := by omega
  have e4 : (B : Int) + (y : Nat) = (t : Nat) := by omega
  have s1 : s ≤ 1000 := by omega
  have x1 : x ≤ 1000 := by omega
  have t1 : t ≤ 10000 := by omega
  have HB0 := Lib.hid ((Below.refl w.heap.size w).alloc (Nat.le_refl _) (.cells #[.int .i64 0, .nilFunc] 66))
  clear hs hx hy ht hv hxy hp hq hB hN hy2
  have hfe := field_entry
  go_enter Try.func30, Try.ntmps30
  go_wp2_with fail
  refine (availPart_any 0 N (16 * N + 2) (16 * N + 4) (by omega) (by omega) (by omega) HNN.out _).mono ?_
  rintro e w1 ⟨a, b, rfl, hr, hb⟩
  have HR := Lib.hid hr
  have HROW := Lib.hid (row_keep (heap_alloc_new w (.cells #[.int .i64 0, .nilFunc] 66)) hb)
  have HB1 := Lib.hid (HB0.out.trans (hb.mono (by simp)))
  clear hr hb
  go_wp2_with fail
  refine (row1_any a b _ _ (N : Nat) ((2 * N : Nat) : Int) (s : Nat) (by omega) (by have := HS.out; omega) (by have := HNN.out; omega) (by omega) _ HR.out).mono ?_
  rintro e w2 ⟨rfl, rfl⟩
  go_wp2_with fail
  refine (partAt_any (t : Nat) 8 (p : Nat) (q : Nat) (by have := HT.out; have := HP.out; omega) (by have := HP.out; have := HQ.out; omega) (by omega) (by omega) _).mono ?_
  rintro e w3 ⟨c, d, rfl, hr, hb⟩
  have HR2 := Lib.hid hr
  have hrow := row_keep HROW.out hb
  have HROW2 := Lib.hid hrow
  obtain ⟨hc0, hc1, hz0, hz1⟩ := cells_two hrow
  have HB2 := Lib.hid (HB1.out.trans (hb.mono HB1.out.size))
  clear hr hb hrow
  go_wp2
  refine bodyPost_ret (v := .agg #[.int .i64 (p : Nat), .func (.func 64) #[] #[.pointer (some ⟨c, 0, none⟩), .pointer (some ⟨d, 0, none⟩)]]) (by simp [results, Try.results30, go_sem, hc0, hc1]) rfl ⟨_, _, rfl, ?_, ?_⟩
  · exact ⟨row_put2 HR2.out.1 HROW2.out tne, row_put2 HR2.out.2 HROW2.out tne⟩
  · exact (HB2.out.setCell (by simp) _).setCell (by simp) _

set_option maxRecDepth 100000 in
theorem size_any (z r : Int) (hr : sizeZ z = r) (w : World) : Calls Try.prog 6 #[.int .i64 z] w fun e w' => e = .returned (.int .i64 r) ∧ Below w.heap.size w w' := by
  subst hr
  cases h : rightB z with
  | false =>
    have H := Lib.hid h
    rw [sizeZ_not h]
    clear h
    go_enter Try.func6, Try.ntmps6
    go_wp2_with fail
    refine (isSize_any _ _ H.out _).mono ?_
    rintro e w1 ⟨rfl, rfl⟩
    go_wp2
    go_ret
    exact ⟨rfl, Below.refl _ _⟩
  | true =>
    have H := Lib.hid h
    obtain ⟨N, rfl, hN⟩ := right_of h
    rw [sizeZ_of hN]
    obtain ⟨s, hs⟩ : ∃ s : Nat, s = sizeN N := ⟨_, rfl⟩
    obtain ⟨y, hy⟩ : ∃ y : Nat, y = secN N := ⟨_, rfl⟩
    have hsy := sizeN_le N
    rw [← hs, ← hy] at hsy
    rw [← hs]
    have HSY := Lib.hid hsy
    have HY := Lib.hid hy
    have HN := Lib.hid hN.le
    clear h hN hs hy hsy
    have hfe := field_entry
    go_enter Try.func6, Try.ntmps6
    go_wp2_with fail
    refine (isSize_any _ _ H.out _).mono ?_
    rintro e w1 ⟨rfl, rfl⟩
    go_wp2_with fail
    refine (usedPart_any 0 N (y + 2) (y + 4) (by have := HY.out; omega) (by have := HY.out; omega) (by omega) HN.out.2 _).mono ?_
    rintro e w2 ⟨a, b, rfl, hr, hb⟩
    have HR := Lib.hid hr
    have HB := Lib.hid hb
    clear hr hb
    go_wp2_with fail
    refine (row1_any a b _ _ (N : Nat) ((8 * N : Nat) : Int) (s : Nat) (by omega) (by have := HSY.out; omega) (by have := HN.out; omega) (by have := HSY.out; have := HN.out; omega) _ HR.out).mono ?_
    rintro e w3 ⟨rfl, rfl⟩
    go_wp2
    go_ret
    exact ⟨rfl, HB.out⟩

theorem refFirst_any (N p : Nat) (hp : 16 * N = p) (hN : N ≤ 16) (w : World) : Calls Try.prog 45 #[.int .i64 (N : Nat)] w fun e w' => e = .returned (.int .i64 (p : Nat)) ∧ w' = w := by
  have h : (16 : Int) * (N : Nat) = (p : Nat) := by omega
  have h2 : p ≤ 1000 := by omega
  clear hp hN
  go_enter Try.func45, Try.ntmps45
  go_wp2
  go_ret
  exact ⟨rfl, rfl⟩
set_option maxRecDepth 100000 in
theorem refSecond_any (N p : Nat) (hp : secN N = p) (hN : N ≤ 16) (w : World) : Calls Try.prog 46 #[.int .i64 (N : Nat)] w fun e w' => e = .returned (.int .i64 (p : Nat)) ∧ w' = w := by
  obtain ⟨a, ha⟩ : ∃ a : Nat, a = 16 * N := ⟨_, rfl⟩
  obtain ⟨b, hb⟩ : ∃ b : Nat, b = 2 * N := ⟨_, rfl⟩
  obtain ⟨c, hc⟩ : ∃ c : Nat, c = a + b := ⟨_, rfl⟩
  obtain ⟨d, hd⟩ : ∃ d : Nat, d = c + 7 := ⟨_, rfl⟩
  obtain ⟨x, hx⟩ : ∃ x : Nat, x = d / 4 := ⟨_, rfl⟩
  have h1 : (16 : Int) * (N : Nat) = (a : Nat) := by omega
  have h2 : (2 : Int) * (N : Nat) = (b : Nat) := by omega
  have h3 : (a : Int) + 4 + (b : Nat) + 3 = (d : Nat) := by omega
  have h4 : (d : Int) / 4 = (x : Nat) := by omega
  have h5 : (x : Int) * 4 = (p : Nat) := by
    unfold secN at hp
    omega
  have a1 : a ≤ 1000 := by omega
  have b1 : b ≤ 1000 := by omega
  have d1 : d ≤ 3000 := by omega
  have x1 : x ≤ 3000 := by omega
  have p1 : p ≤ 10000 := by omega
  clear hp hN ha hb hc hd hx
  go_enter Try.func46, Try.ntmps46
  go_wp2
  go_ret
  exact ⟨rfl, rfl⟩
set_option maxRecDepth 100000 in
theorem refSize_any (z r : Int) (hr : sizeZ z = r) (w : World) : Calls Try.prog 26 #[.int .i64 z] w fun e w' => e = .returned (.int .i64 r) ∧ w' = w := by
  subst hr
  cases h : rightB z with
  | false =>
    have H := Lib.hid h
    rw [sizeZ_not h]
    clear h
    go_enter Try.func26, Try.ntmps26
    go_wp2_with fail
    refine (refRight_any _ _ H.out _).mono ?_
    rintro e w1 ⟨rfl, rfl⟩
    go_wp2
    go_ret
    exact ⟨rfl, rfl⟩
  | true =>
    have H := Lib.hid h
    obtain ⟨N, rfl, hN⟩ := right_of h
    rw [sizeZ_of hN]
    obtain ⟨s, hs⟩ : ∃ s : Nat, s = sizeN N := ⟨_, rfl⟩
    obtain ⟨y, hy⟩ : ∃ y : Nat, y = secN N := ⟨_, rfl⟩
    have hsy := sizeN_le N
    rw [← hs, ← hy] at hsy
    rw [← hs]
    have HY := Lib.hid hy.symm
    have HN := Lib.hid hN.le
    obtain ⟨b, hb⟩ : ∃ b : Nat, b = 8 * N := ⟨_, rfl⟩
    have h2 : (8 : Int) * (N : Nat) = (b : Nat) := by omega
    have h3 : (y : Int) + 4 + (b : Nat) = (s : Nat) := by omega
    have hn := hN.le
    have y1 : y ≤ 1000 := by omega
    have b1 : b ≤ 1000 := by omega
    have s1 : s ≤ 10000 := by omega
    clear h hN hs hy hsy hb hn
    go_enter Try.func26, Try.ntmps26
    go_wp2_with fail
    refine (refRight_any _ _ H.out _).mono ?_
    rintro e w1 ⟨rfl, rfl⟩
    go_wp2_with fail
    refine (refSecond_any N y HY.out HN.out.2 _).mono ?_
    rintro e w2 ⟨rfl, rfl⟩
    go_wp2
    go_ret
    exact ⟨rfl, rfl⟩

set_option maxRecDepth 100000 in
theorem place_any (x s k q t : Int) (a b N i j : Nat) (hj : i % N = j) (hN : 1 ≤ N ∧ N ≤ 16) (hi : i < 65536) (hq : (j : Int) * k = q) (ht : s + q = t) (hq1 : -9223372036854775808 ≤ q ∧ q ≤ 9223372036854775807) (ht1 : -9223372036854775808 ≤ t ∧ t ≤ 9223372036854775807) (w : World) (hr : RowAt w a b s k) :
    Calls Try.prog 38 #[.agg #[.int .i64 x, .func (.func 64) #[] #[.pointer (some ⟨a, 0, none⟩), .pointer (some ⟨b, 0, none⟩)]], .int .i64 (N : Nat), .int .u16 (i : Nat)] w fun e w' => e = .returned (.int .i64 t) ∧ Below w.heap.size w w' := by
  have htm : ((i : Nat) : Int).tmod ((N : Nat) : Int) = (j : Nat) := by rw [Int.tmod_eq_emod_of_nonneg (by omega)]; omega
  have hz : ¬ (N = 0) := by omega
  have hwj : IntKind.i64.wrap ((j : Nat) : Int) = (j : Nat) := IntWalk.i64_in _ (by have := Nat.mod_le i N; omega)
  have hwi : IntKind.i64.wrap ((i : Nat) : Int) = (i : Nat) := IntWalk.i64_in _ (by omega)
  have HQ := Lib.hid hq
  have HT := Lib.hid ht
  have HQ1 := Lib.hid hq1
  have HT1 := Lib.hid ht1
  have hb := (Below.refl w.heap.size w).alloc (Nat.le_refl _) (.cells #[.int .i64 x, .func (.func 64) #[] #[.pointer (some ⟨a, 0, none⟩), .pointer (some ⟨b, 0, none⟩)]] 66)
  have HR := Lib.hid (fun n => (hr.below hb).below (below_drewN (Below.refl _ _) n))
  have HB := Lib.hid hb
  clear hj hq ht hq1 ht1 hb hr
  go_enter Try.func38, Try.ntmps38
  go_wp2_with fail
  go_quiet ((go_at_call 64; refine Calls.quiet_of_same (row1_any a b s k _ q t HQ.out HT.out HQ1.out HT1.out _ (HR.out _))))
  go_wp2
  go_ret
  exact ⟨rfl, below_drewN HB.out _⟩
end Go.Proofs.Ytofeiheomnpggaa
