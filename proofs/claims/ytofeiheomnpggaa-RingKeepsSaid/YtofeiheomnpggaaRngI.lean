/- How a ring is written to: laid, SetDesc. -/
import Derived.Test.YtofeiheomnpggaaRngH
namespace Go.Proofs.Ytofeiheomnpggaa
open Go.RowKit Go.Lib

theorem three_new (w : World) (u : Value) (cs : Array Value) (v : Value) (s t q : TypeId) : (((w.alloc (.cells #[u] s)).alloc (.cells cs t)).alloc (.cells #[v] q)).heap[w.heap.size]? = some (.cells #[u] s (0, 0)) ∧ (((w.alloc (.cells #[u] s)).alloc (.cells cs t)).alloc (.cells #[v] q)).heap[w.heap.size + 1]? = some (.cells cs t (0, 0)) ∧ (((w.alloc (.cells #[u] s)).alloc (.cells cs t)).alloc (.cells #[v] q)).heap[w.heap.size + 2]? = some (.cells #[v] q (0, 0)) ∧ Below w.heap.size w (((w.alloc (.cells #[u] s)).alloc (.cells cs t)).alloc (.cells #[v] q)) := by
  refine ⟨row_keep (row_keep (heap_alloc_new w _) ((Below.refl _ _).alloc (Nat.le_refl _) (.cells cs t))) ((Below.refl _ _).alloc (Nat.le_refl _) _), row_keep (by simpa using heap_alloc_new (w.alloc (.cells #[u] s)) (.cells cs t)) ((Below.refl _ _).alloc (Nat.le_refl _) _), by simpa using heap_alloc_new ((w.alloc (.cells #[u] s)).alloc (.cells cs t)) (.cells #[v] q), (((Below.refl _ _).alloc (Nat.le_refl _) _).alloc (by simp) _).alloc (by simp; omega) _⟩

set_option maxHeartbeats 4000000 in
set_option maxRecDepth 100000 in
theorem laid_offer (v : Value) (l : List UInt8) (w : World) (hv : IsArg w v l) (hL : l.length ≤ 8192) (ix s a b N at_ j p gh : Nat) (hr : RowAt w a b (s : Nat) 2) (hN : 1 ≤ N ∧ N ≤ 16) (hi : at_ < 65536) (hj : at_ % N = j) (hp : s + 2 * j = p) (hpl : p + 2 ≤ l.length) (hix : ix + 2 ≤ l.length) (z : Int) (y : Nat) (hy : (z % 65536).toNat = y) (hh : w.heap[gh]? = some (.cells #[.int .i64 z] 3 (0, 0))) :
    Calls Try.prog 33 #[.agg #[v], .agg #[.int .i64 (ix : Nat), .func (.func 64) #[] #[.pointer (some ⟨a, 0, none⟩), .pointer (some ⟨b, 0, none⟩)]], .int .i64 (N : Nat), .int .u16 (at_ : Nat), .func (.func 35) #[] #[.pointer (some ⟨gh, 0, none⟩)]] w fun e w' => ∃ ra rc, e = .returned (.agg #[.slice ra l.length rc]) ∧ Given w' w.heap.size v l (.slice ra l.length rc) (putAt (putAt l p 2 y) ix 2 (at_ + 1)) ∧ Below w.heap.size w w' := by
  obtain ⟨k1, hk1⟩ : ∃ k, k = (at_ + 1) % 65536 := ⟨_, rfl⟩
  have hw16 : IntKind.u16.wrap (((at_ : Nat) : Int) + 1) = (k1 : Nat) := by simp [IntKind.wrap, IntKind.bits, IntKind.signed]; omega
  have hw64 : IntKind.u64.wrap ((k1 : Nat) : Int) = (k1 : Nat) := IntWalk.u64_in _ (by omega)
  have hlast : ∀ G, putAt G ix 2 (at_ + 1) = putAt G ix 2 k1 := fun G => putAt_mod G ix 2 (by rw [hk1]; omega)
  rw [hlast]
  have HV := Lib.hid hv
  have HL := Lib.hid hL
  have HN := Lib.hid hN
  have HI := Lib.hid hi
  have HJ := Lib.hid hj
  have HQ := Lib.hid (show ((j : Nat) : Int) * 2 = ((2 * j : Nat) : Int) by omega)
  have HT := Lib.hid (show ((s : Nat) : Int) + ((2 * j : Nat) : Int) = (p : Nat) by omega)
  have HQ1 := Lib.hid (show -9223372036854775808 ≤ ((2 * j : Nat) : Int) ∧ ((2 * j : Nat) : Int) ≤ 9223372036854775807 by omega)
  have HT1 := Lib.hid (show -9223372036854775808 ≤ ((p : Nat) : Int) ∧ ((p : Nat) : Int) ≤ 9223372036854775807 by omega)
  have HPL := Lib.hid hpl
  have HIX := Lib.hid hix
  have HY := Lib.hid hy
  have hgh := (Array.getElem?_eq_some_iff.1 hh).1
  have HGH := Lib.hid hgh
  obtain ⟨va, vc, rfl, _⟩ := hv.shape
  obtain ⟨t1, t2, t3, t4⟩ := three_new w (.slice va l.length vc) #[.int .i64 (ix : Nat), .func (.func 64) #[] #[.pointer (some ⟨a, 0, none⟩), .pointer (some ⟨b, 0, none⟩)]] (.slice none 0 0) 28 66 28
  have HB := Lib.hid t4
  have HM := Lib.hid t1
  have HP := Lib.hid t2
  have HR := Lib.hid t3
  have HRA := Lib.hid (hr.below t4)
  have HH := Lib.hid (row_keep hh t4)
  obtain ⟨c0, c1, g0, g1⟩ := cells_two t2
  clear hv hL hN hi hj hp hpl hix hr hh t1 t2 t3 t4 hy hk1 hlast g0 g1 hgh
  go_enter Try.func33, Try.ntmps33
  go_wp2_with fail
  refine (place_any _ (s : Nat) 2 _ _ a b N at_ j HJ.out HN.out HI.out HQ.out HT.out HQ1.out HT1.out _ HRA.out).mono ?_
  rintro e w1 ⟨rfl, hb⟩
  replace HM := Lib.hid (row_keep HM.out hb)
  replace HP := Lib.hid (row_keep HP.out hb)
  replace HR := Lib.hid (row_keep HR.out hb)
  replace HH := Lib.hid (row_keep HH.out hb)
  replace HB := Lib.hid (HB.out.trans (hb.mono HB.out.size))
  clear hb c0 c1
  go_wp2_with fail
  refine (putter_any w.heap.size p _).mono ?_
  rintro e w2 ⟨ga, gb, rfl, hpa, hga, hgb, hb⟩
  replace HM := Lib.hid (row_keep HM.out hb)
  replace HP := Lib.hid (row_keep HP.out hb)
  replace HR := Lib.hid (row_keep HR.out hb)
  replace HH := Lib.hid (row_keep HH.out hb)
  have hgb2 : w.heap.size ≤ gb := Nat.le_trans HB.out.size hgb
  replace HB := Lib.hid (HB.out.trans (hb.mono HB.out.size))
  have HW := Lib.hid (show WSt w ga gb w.heap.size (.slice va l.length vc) l p va vc l w2 from { out := HB.out, lob := hgb2, lom := Nat.le_refl _, mem := HM.out, put := hpa, giv := .inl ⟨rfl, rfl⟩, len := rfl })
  clear hpa hga hgb hb hgb2
  go_wp2_with fail
  refine (offer1_any HV.out HW.out z y HY.out (HH.out) HL.out HPL.out).mono ?_
  rintro e w3 ⟨rfl, ra, rc, h1, h2⟩
  have h3 : Kept2 w2 w3 w.heap.size gb := h2.kept
  replace HP := Lib.hid (h3 _ _ HP.out (by omega) (blocks_ne HW.out.put.2 HP.out tne))
  replace HR := Lib.hid (h3 _ _ HR.out (by omega) (blocks_ne HW.out.put.2 HR.out tneMI))
  replace HW := Lib.hid h1
  obtain ⟨c0, c1, g0, g1⟩ := cells_two HP.out
  clear h1 h2 h3 g0 g1
  go_wp2_with fail
  refine (putter_any w.heap.size ix _).mono ?_
  rintro e w4 ⟨gc, gd, rfl, hpa, hgc, hgd, hb⟩
  have hgd2 : w.heap.size ≤ gd := Nat.le_trans HW.out.out.size hgd
  replace HW := Lib.hid ((HW.out.below hb).other hpa hgd2)
  replace HR := Lib.hid (row_keep HR.out hb)
  clear c0 c1 hpa hgc hgd hb hgd2
  go_wp2_with fail
  refine (put_step HV.out HW.out 2 (ix + 2) k1 rfl HL.out HIX.out (by decide) (by decide)).mono ?_
  rintro e w5 ⟨rfl, ra2, rc2, h1, h2⟩
  replace HR := Lib.hid (h2.row HR.out (by omega) (blocks_ne HW.out.put.2 HR.out tneMI))
  replace HW := Lib.hid h1
  obtain ⟨c0, g0⟩ := one_cell HW.out.mem
  obtain ⟨r0, f0⟩ := one_cell HR.out
  clear h1 h2 g0
  go_wp2
  refine bodyPost_ret (v := .agg #[.slice ra2 l.length rc2]) (by simp [results, Try.results33, go_sem, r0]) rfl ⟨ra2, rc2, rfl, HW.out.giv.far HR.out tneMU _, HW.out.out.setCell (by simp; omega) _⟩

set_option maxHeartbeats 4000000 in
set_option maxRecDepth 100000 in
theorem laid_return (v : Value) (l : List UInt8) (w : World) (hv : IsArg w v l) (hL : l.length ≤ 8192) (ix s a b N at_ j p gh : Nat) (hr : RowAt w a b (s : Nat) 8) (hN : 1 ≤ N ∧ N ≤ 16) (hi : at_ < 65536) (hj : at_ % N = j) (hp : s + 8 * j = p) (hpl : p + 8 ≤ l.length) (hix : ix + 2 ≤ l.length) (y0 y1 : Nat) (hy0 : y0 < 4294967296) (hy1 : y1 < 4294967296) (hh : w.heap[gh]? = some (.cells #[.int .u32 (y0 : Nat), .int .u32 (y1 : Nat)] 25)) :
    Calls Try.prog 33 #[.agg #[v], .agg #[.int .i64 (ix : Nat), .func (.func 64) #[] #[.pointer (some ⟨a, 0, none⟩), .pointer (some ⟨b, 0, none⟩)]], .int .i64 (N : Nat), .int .u16 (at_ : Nat), .func (.func 36) #[] #[.pointer (some ⟨gh, 0, none⟩)]] w fun e w' => ∃ ra rc, e = .returned (.agg #[.slice ra l.length rc]) ∧ Given w' w.heap.size v l (.slice ra l.length rc) (putAt (putAt (putAt l p 4 y0) (p + 4) 4 y1) ix 2 (at_ + 1)) ∧ Below w.heap.size w w' := by
  obtain ⟨k1, hk1⟩ : ∃ k, k = (at_ + 1) % 65536 := ⟨_, rfl⟩
  have hw16 : IntKind.u16.wrap (((at_ : Nat) : Int) + 1) = (k1 : Nat) := by simp [IntKind.wrap, IntKind.bits, IntKind.signed]; omega
  have hw64 : IntKind.u64.wrap ((k1 : Nat) : Int) = (k1 : Nat) := IntWalk.u64_in _ (by omega)
  have hlast : ∀ G, putAt G ix 2 (at_ + 1) = putAt G ix 2 k1 := fun G => putAt_mod G ix 2 (by rw [hk1]; omega)
  rw [hlast]
  have HV := Lib.hid hv
  have HL := Lib.hid hL
  have HN := Lib.hid hN
  have HI := Lib.hid hi
  have HJ := Lib.hid hj
  have HQ := Lib.hid (show ((j : Nat) : Int) * 8 = ((8 * j : Nat) : Int) by omega)
  have HT := Lib.hid (show ((s : Nat) : Int) + ((8 * j : Nat) : Int) = (p : Nat) by omega)
  have HQ1 := Lib.hid (show -9223372036854775808 ≤ ((8 * j : Nat) : Int) ∧ ((8 * j : Nat) : Int) ≤ 9223372036854775807 by omega)
  have HT1 := Lib.hid (show -9223372036854775808 ≤ ((p : Nat) : Int) ∧ ((p : Nat) : Int) ≤ 9223372036854775807 by omega)
  have HPL := Lib.hid hpl
  have HIX := Lib.hid hix
  have HY0 := Lib.hid hy0
  have HY1 := Lib.hid hy1
  have hgh := (Array.getElem?_eq_some_iff.1 hh).1
  have HGH := Lib.hid hgh
  obtain ⟨va, vc, rfl, _⟩ := hv.shape
  obtain ⟨t1, t2, t3, t4⟩ := three_new w (.slice va l.length vc) #[.int .i64 (ix : Nat), .func (.func 64) #[] #[.pointer (some ⟨a, 0, none⟩), .pointer (some ⟨b, 0, none⟩)]] (.slice none 0 0) 28 66 28
  have HB := Lib.hid t4
  have HM := Lib.hid t1
  have HP := Lib.hid t2
  have HR := Lib.hid t3
  have HRA := Lib.hid (hr.below t4)
  have HH := Lib.hid (row_keep hh t4)
  obtain ⟨c0, c1, g0, g1⟩ := cells_two t2
  clear hv hL hN hi hj hp hpl hix hr hh t1 t2 t3 t4 hy0 hy1 hk1 hlast g0 g1 hgh
  go_enter Try.func33, Try.ntmps33
  go_wp2_with fail
  refine (place_any _ (s : Nat) 8 _ _ a b N at_ j HJ.out HN.out HI.out HQ.out HT.out HQ1.out HT1.out _ HRA.out).mono ?_
  rintro e w1 ⟨rfl, hb⟩
  replace HM := Lib.hid (row_keep HM.out hb)
  replace HP := Lib.hid (row_keep HP.out hb)
  replace HR := Lib.hid (row_keep HR.out hb)
  replace HH := Lib.hid (row_keep HH.out hb)
  replace HB := Lib.hid (HB.out.trans (hb.mono HB.out.size))
  clear hb c0 c1
  go_wp2_with fail
  refine (putter_any w.heap.size p _).mono ?_
  rintro e w2 ⟨ga, gb, rfl, hpa, hga, hgb, hb⟩
  replace HM := Lib.hid (row_keep HM.out hb)
  replace HP := Lib.hid (row_keep HP.out hb)
  replace HR := Lib.hid (row_keep HR.out hb)
  replace HH := Lib.hid (row_keep HH.out hb)
  have hgb2 : w.heap.size ≤ gb := Nat.le_trans HB.out.size hgb
  replace HB := Lib.hid (HB.out.trans (hb.mono HB.out.size))
  have HW := Lib.hid (show WSt w ga gb w.heap.size (.slice va l.length vc) l p va vc l w2 from { out := HB.out, lob := hgb2, lom := Nat.le_refl _, mem := HM.out, put := hpa, giv := .inl ⟨rfl, rfl⟩, len := rfl })
  clear hpa hga hgb hb hgb2
  go_wp2_with fail
  refine (return1_any HV.out HW.out y0 y1 HY0.out HY1.out (HH.out) HL.out HPL.out).mono ?_
  rintro e w3 ⟨rfl, ra, rc, h1, h2⟩
  have h3 : Kept2 w2 w3 w.heap.size gb := h2
  replace HP := Lib.hid (h3 _ _ HP.out (by omega) (blocks_ne HW.out.put.2 HP.out tne))
  replace HR := Lib.hid (h3 _ _ HR.out (by omega) (blocks_ne HW.out.put.2 HR.out tneMI))
  replace HW := Lib.hid h1
  obtain ⟨c0, c1, g0, g1⟩ := cells_two HP.out
  clear h1 h2 h3 g0 g1
  go_wp2_with fail
  refine (putter_any w.heap.size ix _).mono ?_
  rintro e w4 ⟨gc, gd, rfl, hpa, hgc, hgd, hb⟩
  have hgd2 : w.heap.size ≤ gd := Nat.le_trans HW.out.out.size hgd
  replace HW := Lib.hid ((HW.out.below hb).other hpa hgd2)
  replace HR := Lib.hid (row_keep HR.out hb)
  clear c0 c1 hpa hgc hgd hb hgd2
  go_wp2_with fail
  refine (put_step HV.out HW.out 2 (ix + 2) k1 rfl HL.out HIX.out (by decide) (by decide)).mono ?_
  rintro e w5 ⟨rfl, ra2, rc2, h1, h2⟩
  replace HR := Lib.hid (h2.row HR.out (by omega) (blocks_ne HW.out.put.2 HR.out tneMI))
  replace HW := Lib.hid h1
  obtain ⟨c0, g0⟩ := one_cell HW.out.mem
  obtain ⟨r0, f0⟩ := one_cell HR.out
  clear h1 h2 g0
  go_wp2
  refine bodyPost_ret (v := .agg #[.slice ra2 l.length rc2]) (by simp [results, Try.results33, go_sem, r0]) rfl ⟨ra2, rc2, rfl, HW.out.giv.far HR.out tneMU _, HW.out.out.setCell (by simp; omega) _⟩
theorem desc_eql (a b c d a' b' c' d' : Nat) (r : Bool) (hr : decide (a = a' ∧ b = b' ∧ c = c' ∧ d = d') = r) (W : World) : (binOp .eql 44 (.agg #[.int .u64 (a : Nat), .int .u32 (b : Nat), .int .u16 (c : Nat), .int .u16 (d : Nat)]) (.agg #[.int .u64 (a' : Nat), .int .u32 (b' : Nat), .int .u16 (c' : Nat), .int .u16 (d' : Nat)])).run Try.prog W = .ok (.bool (r)) W := by
  subst hr
  rw [run_eql_struct, run_equalIn_agg _ _ _ _ _ (by kernel_rfl) (by kernel_rfl)]
  simp [go_sem, Op.eqFields, Program.fieldsOf, Try.underlying44]
  have ea : ((a : Nat) : Int) = ((a' : Nat) : Int) ↔ a = a' := by omega
  have eb : ((b : Nat) : Int) = ((b' : Nat) : Int) ↔ b = b' := by omega
  have ec : ((c : Nat) : Int) = ((c' : Nat) : Int) ↔ c = c' := by omega
  have ed : ((d : Nat) : Int) = ((d' : Nat) : Int) ↔ d = d' := by omega
  by_cases h1 : a = a' <;> by_cases h2 : b = b' <;> by_cases h3 : c = c' <;> by_cases h4 : d = d' <;> simp [ea, eb, ec, ed, h1, h2, h3, h4]
theorem used_eql (a b a' b' : Nat) (r : Bool) (hr : decide (a = a' ∧ b = b') = r) (W : World) : (binOp .eql 25 (.agg #[.int .u32 (a : Nat), .int .u32 (b : Nat)]) (.agg #[.int .u32 (a' : Nat), .int .u32 (b' : Nat)])).run Try.prog W = .ok (.bool (r)) W := by
  subst hr
  rw [run_eql_struct, run_equalIn_agg _ _ _ _ _ (by kernel_rfl) (by kernel_rfl)]
  simp [go_sem, Op.eqFields, Program.fieldsOf, Try.underlying25]
  have ea : ((a : Nat) : Int) = ((a' : Nat) : Int) ↔ a = a' := by omega
  have eb : ((b : Nat) : Int) = ((b' : Nat) : Int) ↔ b = b' := by omega
  by_cases h1 : a = a' <;> by_cases h2 : b = b' <;> simp [ea, eb, h1, h2]
theorem desc_neq (a b c d a' b' c' d' : Nat) (r : Bool) (hr : decide (a = a' ∧ b = b' ∧ c = c' ∧ d = d') = r) (W : World) : (binOp .neq 44 (.agg #[.int .u64 (a : Nat), .int .u32 (b : Nat), .int .u16 (c : Nat), .int .u16 (d : Nat)]) (.agg #[.int .u64 (a' : Nat), .int .u32 (b' : Nat), .int .u16 (c' : Nat), .int .u16 (d' : Nat)])).run Try.prog W = .ok (.bool (!r)) W := by
  subst hr
  rw [run_neq_struct, run_equalIn_agg _ _ _ _ _ (by kernel_rfl) (by kernel_rfl)]
  simp [go_sem, Op.eqFields, Program.fieldsOf, Try.underlying44]
  have ea : ((a : Nat) : Int) = ((a' : Nat) : Int) ↔ a = a' := by omega
  have eb : ((b : Nat) : Int) = ((b' : Nat) : Int) ↔ b = b' := by omega
  have ec : ((c : Nat) : Int) = ((c' : Nat) : Int) ↔ c = c' := by omega
  have ed : ((d : Nat) : Int) = ((d' : Nat) : Int) ↔ d = d' := by omega
  by_cases h1 : a = a' <;> by_cases h2 : b = b' <;> by_cases h3 : c = c' <;> by_cases h4 : d = d' <;> simp [ea, eb, ec, ed, h1, h2, h3, h4]
theorem used_neq (a b a' b' : Nat) (r : Bool) (hr : decide (a = a' ∧ b = b') = r) (W : World) : (binOp .neq 25 (.agg #[.int .u32 (a : Nat), .int .u32 (b : Nat)]) (.agg #[.int .u32 (a' : Nat), .int .u32 (b' : Nat)])).run Try.prog W = .ok (.bool (!r)) W := by
  subst hr
  rw [run_neq_struct, run_equalIn_agg _ _ _ _ _ (by kernel_rfl) (by kernel_rfl)]
  simp [go_sem, Op.eqFields, Program.fieldsOf, Try.underlying25]
  have ea : ((a : Nat) : Int) = ((a' : Nat) : Int) ↔ a = a' := by omega
  have eb : ((b : Nat) : Int) = ((b' : Nat) : Int) ↔ b = b' := by omega
  by_cases h1 : a = a' <;> by_cases h2 : b = b' <;> simp [ea, eb, h1, h2]
end Go.Proofs.Ytofeiheomnpggaa
