/- What bytes.Clone, mem.parts, mem.Get, mem.same and the document's Get answer; what was there stays. -/
import Derived.Test.YtofeiheomnpggaaMemA
import Derived.Test.YtofeiheomnpggaaCat
import Derived.Test.YtofeiheomnpggaaGrow
import Derived.Lib.SliceRun
namespace Go.Proofs.Ytofeiheomnpggaa
open Go.RowKit Go.Lib

theorem IsArg.shape {w : World} {v : Value} {l : List UInt8} (h : IsArg w v l) : ∃ a c, v = .slice a l.length c ∧ l.length ≤ c := by
  rcases h.2 with ⟨rfl, rfl⟩ | ⟨ad, c, rfl, _⟩
  · exact ⟨none, 0, rfl, Nat.le_refl _⟩
  · refine ⟨some ad, c, rfl, ?_⟩
    by_cases h0 : l = []
    · subst h0; exact Nat.zero_le _
    · exact (h.1.cap h0).1

theorem IsArg.shape2 {w : World} {v : Value} {l : List UInt8} (h : IsArg w v l) : ∃ a n c, v = .slice a n c ∧ n = l.length := by
  obtain ⟨a, c, h1, _⟩ := h.shape
  exact ⟨a, _, c, h1, rfl⟩

/-- A part of bytes that came in, with or without room behind it. -/
theorem IsArg.part {w : World} {a : Option Addr} {l : List UInt8} {N c : Nat} (h : IsArg w (.slice a N c) l) (lo hi m : Nat) (h1 : lo ≤ hi) (h2 : hi ≤ l.length) (h3 : hi ≤ m) (h4 : m ≤ c) :
    IsArg w (sliced a lo hi m 1) ((l.drop lo).take (hi - lo)) := by
  have hlen : ((l.drop lo).take (hi - lo)).length = hi - lo := by simp; omega
  rcases h.2 with ⟨hv, rfl⟩ | ⟨ad, c0, hv, hcell⟩
  · cases hv
    obtain rfl : m = 0 := by omega
    obtain rfl : hi = 0 := by omega
    obtain rfl : lo = 0 := by omega
    exact isArg_nil w
  · cases hv
    have hd : ∀ j, j < hi - lo → ((l.drop lo).take (hi - lo)).getD j 0 = l.getD (lo + j) 0 := fun j hj => by
      simp [List.getD_eq_getElem?_getD, hj]
    unfold sliced
    rw [Nat.mul_one]
    have hadr : (if m = lo then some ad else (some ad : Option Addr).map (·.add lo)) = some (if m = lo then ad else ad.add lo) := by split <;> rfl
    rw [hadr]
    have hat : ∀ j, j < hi - lo → w.cell? ((if m = lo then ad else ad.add lo).add j) = some (.int .u8 (((l.drop lo).take (hi - lo)).getD j 0).toNat) := fun j hj => by
      have hm : ¬ m = lo := by omega
      rw [if_neg hm, Addr.add_add, hd j hj]
      refine hcell (lo + j) _ ?_
      simp [byteCells, List.getD_eq_getElem?_getD, List.getElem?_eq_getElem (show lo + j < l.length by omega)]
    refine ⟨?_, .inr ⟨_, m - lo, by rw [hlen], fun j u hu => ?_⟩⟩
    · by_cases h0 : hi - lo = 0
      · refine .inl ⟨_, _, by rw [h0], ?_⟩
        rw [h0]; simp
      · have hne : l ≠ [] := by intro h; subst h; simp at h2; omega
        rcases h.1 with ⟨_, _, _, h5⟩ | ⟨b, off, cap, h5, h6, h7, h8, h9⟩
        · exact absurd h5 hne
        · injection h5 with h5 _ h10
          injection h5 with h5
          subst h5
          have hm : ¬ m = lo := by omega
          have hadd : (Addr.add ⟨b, off, none⟩ lo) = ⟨b, off + lo, none⟩ := by rw [Addr.add_lit]
          refine .inr ⟨b, off + lo, m - lo, by rw [if_neg hm, hadd, hlen], by rw [hlen]; omega, by omega, h8, fun i hi' => ?_⟩
          rw [hlen] at hi'
          have := hat i hi'
          rw [if_neg hm, hadd, Addr.add_lit] at this
          exact this
    · have hj : j < hi - lo := by have := (List.getElem?_eq_some_iff.1 hu).1; rwa [byteCells_length, hlen] at this
      rw [hat j hj, ← hu]
      simp [byteCells, List.getD_eq_getElem?_getD, hj, List.getElem?_eq_getElem (show lo + j < l.length by omega)]

theorem slice_lhm (a : Option Addr) (n c lo hi m : Nat) (h1 : lo ≤ hi) (h2 : hi ≤ m) (h3 : m ≤ c) (W : World) :
    (Instr.slice 26 (.slice a n c) (some (.int .i64 lo)) (some (.int .i64 hi)) (some (.int .i64 m))).run Try.prog W = .ok (sliced a lo hi m 1) W := by
  rw [run_slice_lhm (P := Try.prog) W 26 a n c elemBytes .i64 .i64 .i64 lo hi m (by omega) (by omega) (by omega) (by omega), sizeByte]
  rfl
theorem slice_hm (a : Option Addr) (n c hi m : Nat) (h2 : hi ≤ m) (h3 : m ≤ c) (W : World) :
    (Instr.slice 26 (.slice a n c) none (some (.int .i64 hi)) (some (.int .i64 m))).run Try.prog W = .ok (sliced a 0 hi m 1) W := by
  rw [run_slice_hm (P := Try.prog) W 26 a n c elemBytes .i64 .i64 hi m (by omega) (by omega) (by omega), sizeByte]
  rfl
theorem slice_lh (a : Option Addr) (n c lo hi : Nat) (h1 : lo ≤ hi) (h2 : hi ≤ c) (W : World) :
    (Instr.slice 26 (.slice a n c) (some (.int .i64 lo)) (some (.int .i64 hi)) none).run Try.prog W = .ok (sliced a lo hi c 1) W := by
  rw [run_slice_lh (P := Try.prog) W 26 a n c elemBytes .i64 .i64 lo hi (by omega) (by omega) (by omega), sizeByte]
  rfl

set_option maxHeartbeats 1000000 in
theorem clone_any (v : Value) (l : List UInt8) (w : World) (hv : IsArg w v l) (hl : l.length ≤ 140737488355328) :
    Calls Try.prog 52 #[v] w fun e w' => ∃ r, e = .returned r ∧ w'.ownsRow w.heap.size 5 1 r l.length (byteCells l) ∧ Below w.heap.size w w' := by
  have hq : ∀ (w : World) (a : Option Addr) (n c n' c' : Nat), (binOp .eql 26 (.slice a n c) (.slice none n' c')).run Try.prog w = .ok (.bool a.isNone) w := fun w a n c n' c' => Lib.run_eql_slice_nil w _ _ a n c n' c' Try.underlying26
  rcases hv.2 with ⟨rfl, rfl⟩ | ⟨ad, c, rfl, hcell⟩
  · go_enter Try.func52, Try.ntmps52
    go_wp2
    go_ret
    exact ⟨_, rfl, World.ownsRow_nil w w.heap.size 5 1, Below.refl _ _⟩
  · obtain ⟨i0, hi, hz0, hz1, hz2⟩ := info_parts info8
    have hb : Below w.heap.size w (w.alloc (.cells #[] 5)) := (Below.refl _ _).alloc (Nat.le_refl _) _
    have HA := Lib.hid (hv.below hb).2
    have hown : (w.alloc (.cells #[] 5)).ownsRow w.heap.size 5 1 (.slice (some ⟨w.heap.size, 0, none⟩) 0 0) 0 [] := ownsRow_empty (heap_alloc_new w _) (by decide) rfl _ (Nat.le_refl _)
    have HO := Lib.hid hown
    have HC := Lib.hid hcell
    clear hcell hown
    go_enter Try.func52, Try.ntmps52
    go_wp2_with (at_builtin; refine wpList_append_isArg _ rfl _ _ 26 rfl w.heap.size 5 i0 (.int .u8 0) Try.underlying26 hi hz0 hz1 hz2 rfl _ _ _ rfl HO.out _ l rfl HA.out ?c2 ?c3 ?_)
    case c2 => omega
    case c3 => simp
    intro v' w1 hown1 hgrow
    have HG := Lib.hid (hb.grown hgrow (by simp) (fun k hk => (HO.out.lt k hk).1))
    go_wp2
    go_ret
    exact ⟨_, rfl, hown1, HG.out⟩

set_option maxHeartbeats 1000000 in
theorem parts_any (v : Value) (l : List UInt8) (w : World) (hv : IsArg w v l) (x y : Nat) (hxy : x + y ≤ l.length) (hl : l.length ≤ 8192) :
    Calls Try.prog 73 #[v, .int .i64 x, .int .i64 y] w fun e w' => ∃ p q r, e = .returned (.tuple #[p, q, r]) ∧ IsArg w' p (l.take x) ∧ IsArg w' q ((l.drop x).take y) ∧ IsArg w' r (l.drop (x + y)) ∧ Below w.heap.size w w' := by
  obtain ⟨a, c, rfl, hc⟩ := hv.shape
  obtain ⟨n, hn⟩ : ∃ n, n = l.length := ⟨_, rfl⟩
  rw [← hn] at hc hxy hl hv
  obtain ⟨m, hm⟩ : ∃ m, m = x + y := ⟨_, rfl⟩
  have HV := Lib.hid hv
  have HN := Lib.hid hn
  have HM := Lib.hid hm
  have hmi : (x : Int) + (y : Int) = (m : Int) := by omega
  rw [← hm] at hxy
  have hxm : x ≤ m := by omega
  have s1 := slice_hm a n c x x (Nat.le_refl _) (by omega)
  have s2 := slice_lhm a n c x m m hxm (Nat.le_refl _) (by omega)
  have s3 := slice_lhm a n c m n n hxy (Nat.le_refl _) hc
  rw [← hn]
  obtain ⟨u1, hu1⟩ : ∃ u, u = sliced a 0 x x 1 := ⟨_, rfl⟩
  obtain ⟨u2, hu2⟩ : ∃ u, u = sliced a x m m 1 := ⟨_, rfl⟩
  obtain ⟨u3, hu3⟩ : ∃ u, u = sliced a m n n 1 := ⟨_, rfl⟩
  rw [← hu1] at s1
  rw [← hu2] at s2
  rw [← hu3] at s3
  have HU1 := Lib.hid hu1
  have HU2 := Lib.hid hu2
  have HU3 := Lib.hid hu3
  clear hv hn hm hu1 hu2 hu3
  go_enter Try.func73, Try.ntmps73
  go_wp2
  go_quiet (fail)
  go_wp2
  go_ret3
  have hb : Below w.heap.size w (w.drewN nq) := below_drewN (Below.refl _ _) nq
  have HV2 := (HV.out).below hb
  have p1 := HV2.part 0 x x (Nat.zero_le _) (by rw [← HN.out]; omega) (Nat.le_refl _) (by omega)
  have p2 := HV2.part x m m hxm (by rw [← HN.out]; omega) (Nat.le_refl _) (by omega)
  have p3 := HV2.part m n n hxy (by rw [← HN.out]; omega) (Nat.le_refl _) hc
  rw [← HU1.out] at p1
  rw [← HU2.out] at p2
  rw [← HU3.out] at p3
  rw [Nat.sub_zero, List.drop_zero] at p1
  rw [show m - x = y by rw [HM.out]; omega] at p2
  rw [List.take_of_length_le (by rw [List.length_drop, ← HN.out]; omega), HM.out] at p3
  exact ⟨_, _, _, rfl, p1, p2, p3, hb⟩

set_option maxHeartbeats 1000000 in
theorem get_any (v : Value) (l : List UInt8) (w : World) (hv : IsArg w v l) (x y : Int) (hl : l.length ≤ maxLen) :
    Calls Try.prog 62 #[.agg #[v], .int .i64 x, .int .i64 y] w fun e w' => ∃ r, e = .returned (.tuple #[r, .int .i64 (faultOf l.length x y)]) ∧ w'.ownsRow w.heap.size 5 1 r (getOf l x y).length (byteCells (getOf l x y)) ∧ Below w.heap.size w w' := by
  obtain ⟨a, c, rfl, hc⟩ := hv.shape
  obtain ⟨f, hf⟩ : ∃ f, f = faultOf l.length x y := ⟨_, rfl⟩
  obtain ⟨g, hg⟩ : ∃ g, g = getOf l x y := ⟨_, rfl⟩
  rw [← hf, ← hg]
  have HL := Lib.hid hl
  have HV := Lib.hid hv
  have HF := Lib.hid hf
  have HG := Lib.hid hg
  have hbA : Below w.heap.size w (w.alloc (.cells #[.slice a l.length c] 28)) := (Below.refl _ _).alloc (Nat.le_refl _) _
  have HBA := Lib.hid hbA
  clear hl hv hc hbA
  by_cases h0 : f = 0
  · subst h0
    obtain ⟨k0, k1, k2, k3, k4⟩ := fault_zero hf.symm
    have hg2 : g = (l.drop x.toNat).take y.toNat := by rw [hg]; exact getOf_some hf.symm
    obtain ⟨x, rfl⟩ := Int.eq_ofNat_of_zero_le k1
    obtain ⟨y, rfl⟩ := Int.eq_ofNat_of_zero_le k3
    have hxy : x + y ≤ l.length := by omega
    rw [Int.toNat_natCast, Int.toNat_natCast] at hg2
    have HG2 := Lib.hid hg2
    clear hf hg hg2 k1 k3
    go_enter Try.func62, Try.ntmps62
    go_wp2_with fail
    refine (fault_any _ _ _ HL.out _ _ _).mono ?_
    rintro e w1 ⟨rfl, hb⟩
    rw [← HF.out]
    have hcl := box_cell hb
    have hb1 : Below w.heap.size w w1 := HBA.out.trans (hb.mono (by simp))
    have HB1 := Lib.hid hb1
    clear hb hb1
    go_wp2_with fail
    refine (parts_any _ _ _ (HV.out.below HB1.out) _ _ hxy k0).mono ?_
    rintro e w2 ⟨p, q, r, rfl, _, hq, _, hb2⟩
    have HB2 := Lib.hid (HB1.out.trans (hb2.mono HB1.out.size))
    clear hb2
    have HQ := Lib.hid hq
    clear hq
    rw [← HG2.out] at HQ
    go_wp2_with fail
    refine (clone_any _ _ _ HQ.out (by rw [HG2.out]; simp; omega)).mono ?_
    rintro e w3 ⟨s, rfl, hs, hb3⟩
    have HB3 := Lib.hid (HB2.out.trans (hb3.mono HB2.out.size))
    have HS := Lib.hid (ownsRow_base hs HB2.out.size)
    clear hs hb3
    go_wp2
    go_ret2
    exact ⟨_, rfl, HS.out, HB3.out⟩
  · have hg2 : g = [] := by rw [hg]; exact getOf_none (by rw [← hf]; exact h0)
    subst hg2
    clear hf hg
    go_enter Try.func62, Try.ntmps62
    go_wp2_with fail
    refine (fault_any _ _ _ HL.out _ _ _).mono ?_
    rintro e w1 ⟨rfl, hb⟩
    rw [← HF.out]
    have hb1 : Below w.heap.size w w1 := HBA.out.trans (hb.mono (by simp))
    have HB1 := Lib.hid hb1
    clear hb hb1
    go_wp2
    go_ret2
    exact ⟨_, rfl, World.ownsRow_nil w1 w.heap.size 5 1, HB1.out⟩

set_option maxHeartbeats 1000000 in
theorem refGet_any (v : Value) (l : List UInt8) (w : World) (hv : IsArg w v l) (x y : Int) (hy : -9223372036854775808 ≤ y ∧ y ≤ 9223372036854775807) (hl : l.length ≤ maxLen) :
    Calls Try.prog 65 #[.agg #[v], .int .i64 x, .int .i64 y] w fun e w' => ∃ r, e = .returned (.tuple #[r, .int .i64 (faultOf l.length x y)]) ∧ w'.ownsRow w.heap.size 5 1 r (getOf l x y).length (byteCells (getOf l x y)) ∧ Below w.heap.size w w' := by
  obtain ⟨a, c, rfl, hc⟩ := hv.shape
  obtain ⟨f, hf⟩ : ∃ f, f = faultOf l.length x y := ⟨_, rfl⟩
  obtain ⟨g, hg⟩ : ∃ g, g = getOf l x y := ⟨_, rfl⟩
  rw [← hf, ← hg]
  have HL := Lib.hid hl
  have HV := Lib.hid hv
  have HF := Lib.hid hf
  have HG := Lib.hid hg
  have hbA : Below w.heap.size w (w.alloc (.cells #[.slice a l.length c] 28)) := (Below.refl _ _).alloc (Nat.le_refl _) _
  have HBA := Lib.hid hbA
  clear hl hv hbA
  rcases fault_cases l.length x y with ⟨h0, h1⟩ | ⟨h0, h1, _⟩ | ⟨h0, k0, k1, k2, k3, k4⟩
  · obtain rfl : f = 3 := by rw [hf, h0]
    have hg2 : g = [] := by rw [hg]; exact getOf_none (by rw [h0]; decide)
    subst hg2
    have HC := Lib.hid (show false = decide (l.length ≤ 8192) from (decide_eq_false (by omega)).symm)
    clear hf hg h0 h1 hc
    go_enter Try.func65, Try.ntmps65
    go_wp2_with fail
    refine (refCheck_any _ _ _ HL.out _ HC.out _).mono ?_
    rintro e w1 ⟨rfl, hb⟩
    have HB1 := Lib.hid (HBA.out.trans (hb.mono (by simp)))
    clear hb
    go_wp2
    go_ret2
    exact ⟨_, rfl, World.ownsRow_nil w1 w.heap.size 5 1, HB1.out⟩
  · obtain rfl : f = 40 := by rw [hf, h0]
    have hg2 : g = [] := by rw [hg]; exact getOf_none (by rw [h0]; decide)
    subst hg2
    have HC := Lib.hid (show true = decide (l.length ≤ 8192) from (decide_eq_true h1).symm)
    have HI := Lib.hid (show false = decide (faultOf l.length x y = 0) from (decide_eq_false (by rw [h0]; decide)).symm)
    have H1 := Lib.hid h1
    clear hf hg h0 h1 hc
    go_enter Try.func65, Try.ntmps65
    go_wp2_with fail
    refine (refCheck_any _ _ _ HL.out _ HC.out _).mono ?_
    rintro e w1 ⟨rfl, hb⟩
    have hcl := box_cell hb
    have HB1 := Lib.hid (HBA.out.trans (hb.mono (by simp)))
    clear hb
    go_wp2_with fail
    refine (inside_any _ _ _ H1.out _ _ hy _ HI.out _).mono ?_
    rintro e w2 ⟨rfl, hb⟩
    have HB2 := Lib.hid (HB1.out.trans (hb.mono HB1.out.size))
    clear hb
    go_wp2
    go_ret2
    exact ⟨_, rfl, World.ownsRow_nil w2 w.heap.size 5 1, HB2.out⟩
  · obtain rfl : f = 0 := by rw [hf, h0]
    have hg2 : g = (l.drop x.toNat).take y.toNat := by rw [hg]; exact getOf_some h0
    have HC := Lib.hid (show true = decide (l.length ≤ 8192) from (decide_eq_true k0).symm)
    have HI := Lib.hid (show true = decide (faultOf l.length x y = 0) from (decide_eq_true h0).symm)
    have H1 := Lib.hid k0
    obtain ⟨x, rfl⟩ := Int.eq_ofNat_of_zero_le k1
    obtain ⟨y, rfl⟩ := Int.eq_ofNat_of_zero_le k3
    obtain ⟨m, hm⟩ : ∃ m, m = x + y := ⟨_, rfl⟩
    have hmi : (x : Int) + (y : Int) = (m : Int) := by omega
    have hml : m ≤ l.length := by omega
    have hxm : x ≤ m := by omega
    have HM := Lib.hid hm
    rw [Int.toNat_natCast, Int.toNat_natCast] at hg2
    have HG2 := Lib.hid hg2
    have hs := slice_lh a l.length c x m hxm (by omega)
    obtain ⟨u, hu⟩ : ∃ u, u = sliced a x m c 1 := ⟨_, rfl⟩
    rw [← hu] at hs
    have HU := Lib.hid hu
    have HCC := Lib.hid hc
    obtain ⟨i0, hi, hz0, hz1, hz2⟩ := info_parts info8
    clear hf hg h0 hc hg2 hm k1 k3 k2 k4 hu
    go_enter Try.func65, Try.ntmps65
    go_wp2_with fail
    refine (refCheck_any _ _ _ HL.out _ HC.out _).mono ?_
    rintro e w1 ⟨rfl, hb⟩
    have hcl := box_cell hb
    have HB1 := Lib.hid (HBA.out.trans (hb.mono (by simp)))
    clear hb
    go_wp2_with fail
    refine (inside_any _ _ _ H1.out _ _ hy _ HI.out _).mono ?_
    rintro e w2 ⟨rfl, hb⟩
    have hcl2 : w2.cell? ⟨w.heap.size, 0, none⟩ = some (.slice a l.length c) := by rw [hb.cell (World.block_lt_of_cell? _ _ hcl)]; exact hcl
    have HB2 := Lib.hid (HB1.out.trans (hb.mono HB1.out.size))
    have HO := Lib.hid (ownsRow_empty (heap_alloc_new w2 (.cells #[] 5)) (cap := 0) (by decide) rfl _ (Nat.le_refl _))
    have HB3 := Lib.hid (HB2.out.alloc HB2.out.size (.cells #[] 5))
    have ha := (HV.out.below HB3.out).part x m c hxm hml (Nat.le_trans hml HCC.out) (Nat.le_refl _)
    rw [show m - x = y by rw [HM.out]; omega, ← HG2.out, ← HU.out] at ha
    have HA := Lib.hid ha
    have hcl3 : (w2.alloc (.cells #[] 5)).cell? ⟨w.heap.size, 0, none⟩ = some (.slice a l.length c) := by
      rw [((Below.refl w2.heap.size w2).alloc (Nat.le_refl _) (.cells #[] 5)).cell (World.block_lt_of_cell? _ _ hcl2)]; exact hcl2
    clear hb ha hcl hcl2
    go_wp2_with (at_builtin; refine wpList_append_isArg _ rfl _ _ 26 rfl w2.heap.size 5 i0 (.int .u8 0) Try.underlying26 hi hz0 hz1 hz2 rfl _ _ _ rfl HO.out _ g rfl HA.out.2 ?c2 ?c3 ?_)
    case c2 => rw [HG2.out]; simp; omega
    case c3 => simp
    intro v' w3 hown hgrow
    have HB4 := Lib.hid (HB3.out.grown hgrow (by have := HB2.out.size; simp; omega) (fun k hk => Nat.le_trans HB2.out.size (HO.out.lt k hk).1))
    have HS := Lib.hid (ownsRow_base hown HB2.out.size)
    clear hown hgrow
    go_wp2
    go_ret2
    exact ⟨_, rfl, by simpa using HS.out, HB4.out⟩
end Go.Proofs.Ytofeiheomnpggaa
