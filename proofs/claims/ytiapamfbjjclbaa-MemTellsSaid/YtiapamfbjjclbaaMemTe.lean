/- The law MemTells returns true for every input. -/
import Derived.Test.YtiapamfbjjclbaaMemKe
namespace Go.Proofs.Ytiapamfbjjclbaa
open Go.RowKit Go.Lib

theorem row_kept {w w' : World} {g : Nat} {o : Obj} (h : w.heap[g]? = some o) (hb : Below w.heap.size w w') : w'.heap[g]? = some o :=
  (hb.block g (Array.getElem?_eq_some_iff.1 h).1).trans h
theorem putNum_giv (v : Value) (l : List UInt8) (x y : Int) (k : Nat) (F : Int) (G : List UInt8) (n : Nat) (hF : numFaultOf l.length x y = F) (hG : putNumOf l x y k = G) (hn : G.length = n) (hl : l.length ≤ 140737488355328) (w : World) (hv : IsArg w v l) :
    Calls Try.prog 17 #[.agg #[v], .int .i64 x, .int .i64 y, .int .u64 k] w fun e w' => ∃ a c, e = .returned (.tuple #[.agg #[.slice a n c], .int .i64 F]) ∧ Given w' w.heap.size v l (.slice a n c) G ∧ Below w.heap.size w w' :=
  (putNum_any v l w hv x y k hl).mono fun e w' ⟨r, h1, h2, h3⟩ => by
    rw [hF] at h1
    rw [hG] at h2
    obtain ⟨a, m, c, rfl, hm⟩ := (h2.arg hv h3).shape2
    rw [hn] at hm
    subst hm
    exact ⟨a, c, h1, h2, h3⟩
theorem refPutNum_giv (v : Value) (l : List UInt8) (x y : Int) (k : Nat) (hk : k < 18446744073709551616) (F : Int) (G : List UInt8) (n : Nat) (hF : numFaultOf l.length x y = F) (hG : putNumOf l x y k = G) (hn : G.length = n) (hl : l.length ≤ 140737488355328) (w : World) (hv : IsArg w v l) :
    Calls Try.prog 18 #[.agg #[v], .int .i64 x, .int .i64 y, .int .u64 k] w fun e w' => ∃ a c, e = .returned (.tuple #[.agg #[.slice a n c], .int .i64 F]) ∧ Given w' w.heap.size v l (.slice a n c) G ∧ Below w.heap.size w w' :=
  (refPutNum_any v l w hv x y k hk hl).mono fun e w' ⟨r, h1, h2, h3⟩ => by
    rw [hF] at h1
    rw [hG] at h2
    obtain ⟨a, m, c, rfl, hm⟩ := (h2.arg hv h3).shape2
    rw [hn] at hm
    subst hm
    exact ⟨a, c, h1, h2, h3⟩
theorem Given.grow {w0 w1 w' : World} {v : Value} {l : List UInt8} {r : Value} {G : List UInt8} (h : Given w' w1.heap.size v l r G) (hb : w0.heap.size ≤ w1.heap.size) : Given w' w0.heap.size v l r G := h.base hb

set_option maxHeartbeats 2000000 in
set_option maxRecDepth 100000 in
theorem memTells_out (w : World) (v : Value) (l : List UInt8) (hv : IsArg w v l) (x y : Int) (u : Value) (m : List UInt8) (hu : IsArg w u m) (k : Nat) (h : 3000 < l.length ∨ 500 < m.length ∨ 20000 < y) :
    Calls Try.prog 4 #[.agg #[v], .int .i64 x, .int .i64 y, u, .int .u64 k] w fun e w' => e = .returned (.bool true) ∧ Below w.heap.size w w' := by
  have HL := Lib.hid (arg_max hv)
  have hmm := arg_max hu
  unfold maxLen at hmm
  obtain ⟨a, c, rfl, hq⟩ := hv.shape
  obtain ⟨ua, uc, rfl, hq2⟩ := hu.shape
  have HBA := Lib.hid ((Below.refl w.heap.size w).alloc (Nat.le_refl _) (.cells #[.slice a l.length c] 24))
  have hways : 3000 < l.length ∨ (l.length ≤ 3000 ∧ 500 < m.length) ∨ (l.length ≤ 3000 ∧ m.length ≤ 500 ∧ 20000 < y) := by omega
  clear hv hq hu hq2 h
  obtain ⟨r, hr⟩ : ∃ r, r = decide (l.length ≤ 3000) := ⟨_, rfl⟩
  have HF := Lib.hid hr
  rcases hways with h0 | ⟨h0, h1⟩ | ⟨h0, h1, h2⟩
  · obtain rfl : r = false := by rw [hr]; exact decide_eq_false (by omega)
    clear hr h0
    go_enter Try.func4, Try.ntmps4
    go_wp2_with fail
    refine (few_any _ _ _ HL.out _ HF.out _).mono ?_
    rintro e w1 ⟨rfl, hb⟩
    have HB1 := Lib.hid (HBA.out.trans (hb.mono (by simp)))
    clear hb
    go_wp2_with fail
    refine (heads_any _).mono ?_
    rintro e w2 ⟨rfl, hb⟩
    have HB2 := Lib.hid (HB1.out.trans (hb.mono HB1.out.size))
    clear hb
    go_wp2
    go_ret
    exact ⟨rfl, HB2.out⟩
  all_goals (
    obtain rfl : r = true := by rw [hr]; exact decide_eq_true (by omega)
    clear hr h0
    go_enter Try.func4, Try.ntmps4
    go_wp2_with fail
    refine (few_any _ _ _ HL.out _ HF.out _).mono ?_
    rintro e w1 ⟨rfl, hb⟩
    have HB1 := Lib.hid (HBA.out.trans (hb.mono (by simp)))
    clear hb
    go_wp2_with fail
    refine (heads_any _).mono ?_
    rintro e w2 ⟨rfl, hb⟩
    have HB2 := Lib.hid (HB1.out.trans (hb.mono HB1.out.size))
    clear hb
    go_wp2
    go_ret
    exact ⟨rfl, HB2.out⟩)

structure TellsX where
  b0 : Bool
  b1 : Bool
  b2 : Bool
  b3 : Bool
  b4 : Bool
  b5 : Bool
  b6 : Bool
  b7 : Bool
  b8 : Bool
  b9 : Bool
  b10 : Bool
  b11 : Bool
  b12 : Bool
  b13 : Bool
  b14 : Bool
  b15 : Bool
  b16 : Bool
  b17 : Bool
  b18 : Bool
  b19 : Bool
  b20 : Bool
  b21 : Bool
  b22 : Bool
  b23 : Bool
  b24 : Bool
  b25 : Bool
  b26 : Bool
  b27 : Bool
  b28 : Bool
  b29 : Bool
  b30 : Bool
  b31 : Bool
  b32 : Bool
  b33 : Bool
  b34 : Bool
  b35 : Bool
  b36 : Bool
  b37 : Bool
  b38 : Bool
  s126 : Value
  s127 : Value
  s128 : Value
  s129 : Value
  s130 : Value
  s131 : Value
  s132 : Value
  s133 : Value
  s134 : Value
  s135 : Value
  s136 : Value
  s137 : Value
  s138 : Value
  s139 : Value
  s140 : Value
  s141 : Value
  s142 : Value
  s143 : Value
  s144 : Value
  s145 : Value
  s146 : Value
  s147 : Value
  s148 : Value
  s149 : Value
  s150 : Value
  s151 : Value
  s152 : Value
  s153 : Value
  s154 : Value
  s155 : Value
  s156 : Value
  s157 : Value
  s158 : Value
  s159 : Value
  s160 : Value
  s161 : Value
  s162 : Value
  s163 : Value
  s10 : Value
set_option maxHeartbeats 4000000 in
set_option maxRecDepth 100000 in
theorem memTells_in (w : World) (v : Value) (l : List UInt8) (hv : IsArg w v l) (hl : l.length ≤ 3000) (x y : Int) (hy : -9223372036854775808 ≤ y ∧ y ≤ 9223372036854775807) (u : Value) (m : List UInt8) (hu : IsArg w u m) (hm : m.length ≤ 500) (k : Nat) (hk : k < 18446744073709551616) (hy2 : y ≤ 20000) :
    Calls Try.prog 4 #[.agg #[v], .int .i64 x, .int .i64 y, u, .int .u64 k] w fun e w' => e = .returned (.bool true) ∧ Below w.heap.size w w' := by
  have HL := Lib.hid (arg_max hv)
  have HV := Lib.hid hv
  have HU := Lib.hid hu
  obtain ⟨a, c, hsh, hq⟩ := hv.shape
  obtain ⟨ua, uc, hsh2, hq2⟩ := hu.shape
  obtain ⟨N, hN⟩ : ∃ n, n = l.length := ⟨_, rfl⟩
  obtain ⟨mn, hmn⟩ : ∃ n, n = m.length := ⟨_, rfl⟩
  rw [← hN] at hsh
  rw [← hmn] at hsh2
  subst hsh
  subst hsh2
  have HF := Lib.hid (show true = decide (N ≤ 3000) from (decide_eq_true (by omega)).symm)
  have HCK := Lib.hid (show true = decide (N ≤ 8192) from (decide_eq_true (by omega)).symm)
  have HNL := Lib.hid (show N ≤ maxLen by rw [hN]; exact HL.out)
  have HLL := Lib.hid (show l.length ≤ 140737488355328 ∧ m.length ≤ 140737488355328 by omega)
  have hm5 : mn ≤ 500 := by omega
  have HY := Lib.hid hy
  have HK := Lib.hid hk
  obtain ⟨GF, hGF⟩ : ∃ F, F = faultOf l.length x y := ⟨_, rfl⟩
  obtain ⟨GA, hGA⟩ : ∃ G, G = getOf l x y := ⟨_, rfl⟩
  obtain ⟨an, han⟩ : ∃ n, n = GA.length := ⟨_, rfl⟩
  obtain ⟨PF, hPF⟩ : ∃ F, F = faultOf l.length x m.length := ⟨_, rfl⟩
  obtain ⟨PA, hPA⟩ : ∃ G, G = putOf l x m := ⟨_, rfl⟩
  obtain ⟨pn, hpn⟩ : ∃ n, n = PA.length := ⟨_, rfl⟩
  obtain ⟨VN, hVN⟩ : ∃ F, F = (numOf l x y : Int) := ⟨_, rfl⟩
  obtain ⟨HN, hHN⟩ : ∃ F, F = numFaultOf l.length x y := ⟨_, rfl⟩
  obtain ⟨QA, hQA⟩ : ∃ G, G = putNumOf l x y k := ⟨_, rfl⟩
  obtain ⟨gn, hgn⟩ : ∃ n, n = QA.length := ⟨_, rfl⟩
  obtain ⟨NF, hNF⟩ : ∃ F : Int, F = if 0 ≤ y ∧ y ≤ 8192 then 0 else 2 := ⟨_, rfl⟩
  obtain ⟨NA, hNA⟩ : ∃ G : List UInt8, G = if 0 ≤ y ∧ y ≤ 8192 then List.replicate y.toNat (0 : UInt8) else [] := ⟨_, rfl⟩
  obtain ⟨nn, hnn⟩ : ∃ n, n = NA.length := ⟨_, rfl⟩
  have HGF := Lib.hid hGF.symm
  have HGA := Lib.hid hGA.symm
  have HAN := Lib.hid han.symm
  have HPF := Lib.hid hPF.symm
  have HPA := Lib.hid hPA.symm
  have HPN := Lib.hid hpn.symm
  have HVN := Lib.hid hVN.symm
  have HHN := Lib.hid hHN.symm
  have HQA := Lib.hid hQA.symm
  have HGN := Lib.hid hgn.symm
  have HNF := Lib.hid hNF.symm
  have HNA := Lib.hid hNA.symm
  have HNN := Lib.hid hnn.symm
  obtain ⟨bm, hbm⟩ : ∃ b, b = w.heap.size := ⟨_, rfl⟩
  have HBM := Lib.hid hbm
  have hbA : Below w.heap.size w (w.alloc (.cells #[.slice a N c] 24)) := (Below.refl w.heap.size w).alloc (Nat.le_refl _) _
  have RA := Lib.hid (show (w.alloc (.cells #[.slice a N c] 24)).heap[bm]? = some (.cells #[.slice a N c] 24 (0, 0)) by rw [hbm]; exact heap_alloc_new w _)
  have HBA := Lib.hid hbA
  clear hv hq hu hq2 hGF hGA han hPF hPA hpn hVN hHN hQA hgn hNF hNA hnn hbm hbA hN hmn hl hm hk hy
  go_enter Try.func4, Try.ntmps4
  go_wp2_with fail
  refine (few_any _ _ _ HNL.out _ HF.out _).mono ?_
  rintro e w1 ⟨rfl, hb⟩
  rw [← HBM.out]
  have R1 := Lib.hid (row_kept RA.out hb)
  have B1 := Lib.hid (HBA.out.trans (hb.mono (by simp)))
  have hcl := (one_cell R1.out).1
  clear hb
  go_wp2_with fail
  refine (get_this _ l x y GF GA an HGF.out HGA.out HAN.out HL.out _ (HV.out.below B1.out)).mono ?_
  rintro e w2 ⟨ga, gc, rfl, hg, hb⟩
  have R2 := Lib.hid (row_kept R1.out hb)
  have B2 := Lib.hid (B1.out.trans (hb.mono B1.out.size))
  have G2 := Lib.hid hg
  clear hb hg hcl
  have hcl := (one_cell R2.out).1
  go_wp2_with fail
  refine (refGet_this _ l x y HY.out GF GA an HGF.out HGA.out HAN.out HL.out _ (HV.out.below B2.out)).mono ?_
  rintro e w3 ⟨ha, hc, rfl, hg, hb⟩
  have R3 := Lib.hid (row_kept R2.out hb)
  have B3 := Lib.hid (B2.out.trans (hb.mono B2.out.size))
  have G3 := Lib.hid (G2.out.below hb)
  have H3 := Lib.hid hg
  clear hb hg hcl
  have hcl := (one_cell R3.out).1
  go_wp2_with fail
  refine (bytes_same _ _ GA _ G3.out.1 H3.out.1).mono ?_
  rintro e w8 ⟨rfl, rfl⟩
  go_wp2_with fail
  refine (put_this _ l _ m x PF PA pn HPF.out HPA.out HPN.out HLL.out.1 HLL.out.2 _ (HV.out.below B3.out) (HU.out.below B3.out)).mono ?_
  rintro e w4 ⟨pa, pc, rfl, hp, hb⟩
  have R4 := Lib.hid (row_kept R3.out hb)
  have B4 := Lib.hid (B3.out.trans (hb.mono B3.out.size))
  have P4 := Lib.hid hp
  clear hb hp hcl
  have b4 : Below w4.heap.size w4 (w4.alloc (.cells #[.slice pa pn pc] 24)) := (Below.refl _ _).alloc (Nat.le_refl _) _
  have B4a := Lib.hid (B4.out.trans (b4.mono B4.out.size))
  obtain ⟨bp, hbp⟩ : ∃ b, b = w4.heap.size := ⟨_, rfl⟩
  have HBP := Lib.hid hbp
  have P4a := Lib.hid (show (w4.alloc (.cells #[.slice pa pn pc] 24)).heap[bp]? = some (.cells #[.slice pa pn pc] 24 (0, 0)) by rw [hbp]; exact heap_alloc_new w4 _)
  have P4b := Lib.hid (P4.out.below b4)
  have R4a := Lib.hid (row_kept R4.out b4)
  have Z4 := Lib.hid (show bm < bp by have := (Array.getElem?_eq_some_iff.1 R4.out).1; omega)
  clear b4 hbp
  have hcl := (one_cell R4a.out).1
  go_wp2_with fail
  refine (refPut_this _ l _ m x PF PA pn HPF.out HPA.out HPN.out HLL.out.1 HLL.out.2 _ (HV.out.below B4a.out) (HU.out.below B4a.out)).mono ?_
  rintro e w5 ⟨qa, qc, rfl, hp, hb⟩
  rw [← HBP.out]
  have R5 := Lib.hid (row_kept R4a.out hb)
  have P5 := Lib.hid (row_kept P4a.out hb)
  have P5b := Lib.hid (P4b.out.below hb)
  have B5 := Lib.hid (B4a.out.trans (hb.mono B4a.out.size))
  have Q5 := Lib.hid hp
  clear hb hp hcl
  have b5 : Below w5.heap.size w5 (w5.alloc (.cells #[.slice qa pn qc] 24)) := (Below.refl _ _).alloc (Nat.le_refl _) _
  have B5a := Lib.hid (B5.out.trans (b5.mono B5.out.size))
  obtain ⟨bq, hbq⟩ : ∃ b, b = w5.heap.size := ⟨_, rfl⟩
  have HBQ := Lib.hid hbq
  have Q5a := Lib.hid (show (w5.alloc (.cells #[.slice qa pn qc] 24)).heap[bq]? = some (.cells #[.slice qa pn qc] 24 (0, 0)) by rw [hbq]; exact heap_alloc_new w5 _)
  have Q5b := Lib.hid (Q5.out.below b5)
  have P5c := Lib.hid (P5b.out.below b5)
  have P5a := Lib.hid (row_kept P5.out b5)
  have R5a := Lib.hid (row_kept R5.out b5)
  have Z5 := Lib.hid (show bp < bq by have := (Array.getElem?_eq_some_iff.1 P5.out).1; omega)
  clear b5 hbq
  have hcl := (one_cell P5a.out).1
  go_wp2_with fail
  refine (alike_any _ _ PA _ P5c.out Q5b.out).mono ?_
  rintro e w6 ⟨rfl, hb⟩
  rw [← HBQ.out]
  have R6 := Lib.hid (row_kept R5a.out hb)
  have P6 := Lib.hid (row_kept P5a.out hb)
  have Q6 := Lib.hid (row_kept Q5a.out hb)
  have B6 := Lib.hid (B5a.out.trans (hb.mono B5a.out.size))
  clear hb hcl
  have hcl := (one_cell R6.out).1
  go_wp2_with fail
  refine (num_this _ l x y VN HN HVN.out HHN.out HL.out _ (HV.out.below B6.out)).mono ?_
  rintro e w7 ⟨rfl, hb⟩
  have R7 := Lib.hid (row_kept R6.out hb)
  have P7 := Lib.hid (row_kept P6.out hb)
  have Q7 := Lib.hid (row_kept Q6.out hb)
  have B7 := Lib.hid (B6.out.trans (hb.mono B6.out.size))
  clear hb hcl
  have hcl := (one_cell R7.out).1
  go_wp2_with fail
  refine (refNum_this _ l x y VN HN HVN.out HHN.out HL.out _ (HV.out.below B7.out)).mono ?_
  rintro e w8 ⟨rfl, hb⟩
  have R8 := Lib.hid (row_kept R7.out hb)
  have P8 := Lib.hid (row_kept P7.out hb)
  have Q8 := Lib.hid (row_kept Q7.out hb)
  have B8 := Lib.hid (B7.out.trans (hb.mono B7.out.size))
  have Z8 := Lib.hid (show bq < w8.heap.size from (Array.getElem?_eq_some_iff.1 Q8.out).1)
  clear hb hcl
  have hcl := (one_cell R8.out).1
  go_wp2_with fail
  refine (putNum_giv _ l x y k HN QA gn HHN.out HQA.out HGN.out HLL.out.1 _ (HV.out.below B8.out)).mono ?_
  rintro e w9 ⟨ra, rc, rfl, hp, hb⟩
  have R9 := Lib.hid (row_kept R8.out hb)
  have P9 := Lib.hid (row_kept P8.out hb)
  have Q9 := Lib.hid (row_kept Q8.out hb)
  have B9 := Lib.hid (B8.out.trans (hb.mono B8.out.size))
  have GP9 := Lib.hid hp
  have Z9 := Lib.hid (show w8.heap.size ≤ w9.heap.size from hb.size)
  clear hb hp hcl
  have B9a := Lib.hid (show Below w.heap.size w (w9.setCell ⟨bp, 0, none⟩ (.slice ra gn rc)) from B9.out.setCell (show w.heap.size ≤ bp by have := Z4.out; rw [HBM.out] at this; omega) _)
  have R9a := Lib.hid (one_other R9.out ⟨bp, 0, none⟩ (.slice ra gn rc) (show bp ≠ bm by have := Z4.out; omega))
  have P9a := Lib.hid (one_set P9.out (.slice ra gn rc))
  have Q9a := Lib.hid (one_other Q9.out ⟨bp, 0, none⟩ (.slice ra gn rc) (show bp ≠ bq by have := Z5.out; omega))
  have GP9a := Lib.hid (GP9.out.set ⟨bp, 0, none⟩ (.slice ra gn rc) (show bp < w8.heap.size by have := Z8.out; have := Z5.out; omega))
  obtain ⟨hcl, hfz⟩ := one_cell P9.out
  have hcm := (one_cell R9a.out).1
  go_wp2_with fail
  refine (refPutNum_giv _ l x y k HK.out HN QA gn HHN.out HQA.out HGN.out HLL.out.1 _ (HV.out.below B9a.out)).mono ?_
  rintro e w10 ⟨rb, rd, rfl, hp, hb⟩
  have hs9 : (w9.setCell ⟨bp, 0, none⟩ (.slice ra gn rc)).heap.size = w9.heap.size := by simp [World.setCell]
  have R10 := Lib.hid (row_kept R9a.out hb)
  have P10 := Lib.hid (row_kept P9a.out hb)
  have Q10 := Lib.hid (row_kept Q9a.out hb)
  have B10 := Lib.hid (B9a.out.trans (hb.mono B9a.out.size))
  have GP10 := Lib.hid (GP9a.out.below hb)
  have GQ10 := Lib.hid hp
  have Z10 := Lib.hid (show bq < (w9.setCell ⟨bp, 0, none⟩ (.slice ra gn rc)).heap.size by rw [hs9]; have := Z8.out; have := Z9.out; omega)
  clear hb hp hcl hfz hcm hs9
  have B10a := Lib.hid (show Below w.heap.size w (w10.setCell ⟨bq, 0, none⟩ (.slice rb gn rd)) from B10.out.setCell (show w.heap.size ≤ bq by have := Z4.out; have := Z5.out; rw [HBM.out] at *; omega) _)
  have R10a := Lib.hid (one_other R10.out ⟨bq, 0, none⟩ (.slice rb gn rd) (show bq ≠ bm by have := Z4.out; have := Z5.out; omega))
  have P10a := Lib.hid (one_other P10.out ⟨bq, 0, none⟩ (.slice rb gn rd) (show bq ≠ bp by have := Z5.out; omega))
  have Q10a := Lib.hid (one_set Q10.out (.slice rb gn rd))
  have GP10a := Lib.hid ((GP10.out.set ⟨bq, 0, none⟩ (.slice rb gn rd) (show bq < w8.heap.size from Z8.out)).arg HV.out B10a.out)
  have GQ10a := Lib.hid ((GQ10.out.set ⟨bq, 0, none⟩ (.slice rb gn rd) (show bq < _ from Z10.out)).arg HV.out B10a.out)
  obtain ⟨hcl, hfz⟩ := one_cell Q10.out
  go_wp2_with fail
  refine (new_this y NF NA nn HNF.out HNA.out HNN.out _).mono ?_
  rintro e w11 ⟨sa, sc, rfl, hp, hb⟩
  have R11 := Lib.hid (row_kept R10a.out hb)
  have P11 := Lib.hid (row_kept P10a.out hb)
  have Q11 := Lib.hid (row_kept Q10a.out hb)
  have B11 := Lib.hid (B10a.out.trans (hb.mono B10a.out.size))
  have GP11 := Lib.hid (GP10a.out.below hb)
  have GQ11 := Lib.hid (GQ10a.out.below hb)
  have S11 := Lib.hid hp
  clear hb hp hcl hfz
  obtain ⟨bs, hbs⟩ : ∃ b, b = w11.heap.size := ⟨_, rfl⟩
  have HBS := Lib.hid hbs
  have b11 : Below w11.heap.size w11 (w11.alloc (.cells #[.slice sa nn sc] 24)) := (Below.refl _ _).alloc (Nat.le_refl _) _
  have R11a := Lib.hid (row_kept R11.out b11)
  have P11a := Lib.hid (row_kept P11.out b11)
  have Q11a := Lib.hid (row_kept Q11.out b11)
  have B11a := Lib.hid (B11.out.trans (b11.mono B11.out.size))
  have GP11a := Lib.hid (GP11.out.below b11)
  have GQ11a := Lib.hid (GQ11.out.below b11)
  have S11b := Lib.hid (S11.out.below b11)
  have S11a := Lib.hid (show (w11.alloc (.cells #[.slice sa nn sc] 24)).heap[bs]? = some (.cells #[.slice sa nn sc] 24 (0, 0)) by rw [hbs]; exact heap_alloc_new w11 _)
  clear hbs b11
  go_upto_region 16 with fail
  rw [← HBS.out]
  generalize hwa : w11.alloc (.cells #[.slice sa nn sc] 24) = wa
  rw [hwa] at R11a P11a Q11a B11a GP11a GQ11a S11b S11a
  clear hwa
  go_cut [25, 26] (fun s f wx => ∃ (g : Nat) (ta : Option Addr) (tc : Nat), s = .pointer (some ⟨g, 0, none⟩) ∧ f = .int .i64 NF ∧ wx.heap[g]? = some (.cells #[.slice ta nn tc] 24 (0, 0)) ∧ IsArg wx (.slice ta nn tc) NA ∧ Below wa.heap.size wa wx)
  case first =>
    go_wp2_with fail
    refine (refNew_this y NF NA nn HNF.out HNA.out HNN.out _).mono ?_
    rintro e w12 ⟨ta, tc, rfl, hp, hb⟩
    have b12 : Below w12.heap.size w12 (w12.alloc (.cells #[.slice ta nn tc] 24)) := (Below.refl _ _).alloc (Nat.le_refl _) _
    have HX := Lib.hid (hb.trans (b12.mono hb.size))
    have HX2 := Lib.hid (hp.below b12)
    clear hb hp b12
    go_wp2_with fail
    go_meet
    exact ⟨_, ta, tc, rfl, rfl, heap_alloc_new w12 _, HX2.out, HX.out⟩
  case rest =>
  obtain ⟨bt, ta, tc, rfl, rfl, ht1, ht2, hbx⟩ := hcut
  obtain ⟨W0, hW0⟩ : ∃ W, W = wc := ⟨_, rfl⟩
  subst hW0
  have BZ := Lib.hid (B11a.out.trans (hbx.mono B11a.out.size))
  have HM := Lib.hid (show ∀ W, Below W0.heap.size W0 W → W.heap[bm]? = some (.cells #[.slice a N c] 24 (0, 0)) from fun W h => row_kept (row_kept R11a.out hbx) h)
  have HP := Lib.hid (show ∀ W, Below W0.heap.size W0 W → W.heap[bp]? = some (.cells #[.slice ra gn rc] 24 (0, 0)) from fun W h => row_kept (row_kept P11a.out hbx) h)
  have HQ := Lib.hid (show ∀ W, Below W0.heap.size W0 W → W.heap[bq]? = some (.cells #[.slice rb gn rd] 24 (0, 0)) from fun W h => row_kept (row_kept Q11a.out hbx) h)
  have HS := Lib.hid (show ∀ W, Below W0.heap.size W0 W → W.heap[bs]? = some (.cells #[.slice sa nn sc] 24 (0, 0)) from fun W h => row_kept (row_kept S11a.out hbx) h)
  have HT := Lib.hid (show ∀ W, Below W0.heap.size W0 W → W.heap[bt]? = some (.cells #[.slice ta nn tc] 24 (0, 0)) from fun W h => row_kept ht1 h)
  have HSA := Lib.hid (show ∀ W, Below W0.heap.size W0 W → Calls Try.prog 15 #[.agg #[.slice ra gn rc], .agg #[.slice rb gn rd]] W fun e w' => e = .returned (.bool true) ∧ Below W.heap.size W w' from fun W h => alike_any _ _ QA W ((GP11a.out.below hbx).below h) ((GQ11a.out.below hbx).below h))
  have HSB := Lib.hid (show ∀ W, Below W0.heap.size W0 W → Calls Try.prog 15 #[.agg #[.slice sa nn sc], .agg #[.slice ta nn tc]] W fun e w' => e = .returned (.bool true) ∧ Below W.heap.size W w' from fun W h => alike_any _ _ NA W ((S11b.out.below hbx).below h) (ht2.below h))
  have HCA := Lib.hid (show ∀ W, Below W0.heap.size W0 W → Calls Try.prog 21 #[.agg #[.slice a N c]] W fun e w' => e = .returned (.bool true) ∧ Below W.heap.size W w' from fun W _ => check_any a N c HNL.out true HCK.out W)
  have HCB := Lib.hid (show ∀ W, Below W0.heap.size W0 W → Calls Try.prog 22 #[.agg #[.slice a N c]] W fun e w' => e = .returned (.bool true) ∧ Below W.heap.size W w' from fun W _ => refCheck_any a N c HNL.out true HCK.out W)
  have HHD := Lib.hid (show ∀ W, Below W0.heap.size W0 W → Calls Try.prog 7 #[] W fun e w' => e = .returned (.bool true) ∧ Below W.heap.size W w' from fun W _ => heads_any W)
  clear hbx ht1 ht2
  clear R1 R2 R3 R4 R4a R5 R5a R6 R7 R8 R9 R9a R10 R10a R11 R11a P4 P4a P4b P5 P5a P5b P5c P6 P7 P8 P9 P9a P10 P10a P11 P11a Q5 Q5a Q5b Q6 Q7 Q8 Q9 Q9a Q10 Q10a Q11 Q11a GP9 GP9a GP10 GP10a GP11 GP11a GQ10 GQ10a GQ11 GQ11a S11 S11a S11b B1 B2 B3 B4 B4a B5 B5a B6 B7 B8 B9 B9a B10 B10a B11 B11a G2 G3 H3 Z4 Z5 Z8 Z9 Z10
  obtain ⟨z, hz⟩ : ∃ z, z = x := ⟨_, rfl⟩
  subst hz
  go_upto_region 17 with fail
  refine wp_region_rec (X := TellsX) (by kernel_rfl) (by kernel_rfl) (fun x => #[x.b0, x.b1, x.b2, x.b3, x.b4, x.b5, x.b6, x.b7, x.b8, x.b9, x.b10, x.b11, x.b12, x.b13, x.b14, x.b15, x.b16, x.b17, x.b18, x.b19, x.b20, x.b21, x.b22, x.b23, x.b24, x.b25, x.b26, x.b27, x.b28, x.b29, x.b30, x.b31, x.b32, x.b33, x.b34, x.b35, x.b36, x.b37, x.b38]) (fun x => { tmps := List.toArray ((.agg #[.slice a N c]) :: (.int .i64 z) :: (.int .i64 y) :: (.slice ua mn uc) :: (.int .u64 k) :: (.pointer (some ⟨bm, 0, none⟩)) :: undef :: undef :: undef :: undef :: x.s10 :: (.slice ga an gc) :: (.int .i64 GF) :: (.slice ha an hc) :: (.int .i64 GF) :: (.pointer (some ⟨bp, 0, none⟩)) :: (.int .i64 HN) :: (.pointer (some ⟨bq, 0, none⟩)) :: (.int .i64 HN) :: (.int .u64 VN) :: (.int .i64 HN) :: (.int .u64 VN) :: (.int .i64 HN) :: (.pointer (some ⟨bs, 0, none⟩)) :: (.int .i64 NF) :: (.pointer (some ⟨bt, 0, none⟩)) :: (.int .i64 NF) :: u27 :: u28 :: u29 :: u30 :: u31 :: u32 :: u33 :: u34 :: u35 :: u36 :: u37 :: u38 :: u39 :: u40 :: u41 :: u42 :: u43 :: u44 :: u45 :: u46 :: u47 :: u48 :: u49 :: u50 :: u51 :: u52 :: u53 :: u54 :: u55 :: u56 :: u57 :: u58 :: u59 :: u60 :: u61 :: u62 :: u63 :: u64 :: u65 :: u66 :: u67 :: u68 :: u69 :: u70 :: u71 :: u72 :: u73 :: u74 :: u75 :: u76 :: u77 :: u78 :: u79 :: u80 :: u81 :: u82 :: u83 :: u84 :: u85 :: u86 :: u87 :: u88 :: u89 :: u90 :: u91 :: u92 :: u93 :: u94 :: u95 :: u96 :: u97 :: u98 :: u99 :: u100 :: u101 :: u102 :: u103 :: u104 :: u105 :: u106 :: u107 :: u108 :: u109 :: u110 :: u111 :: u112 :: u113 :: u114 :: u115 :: u116 :: u117 :: u118 :: u119 :: u120 :: u121 :: u122 :: u123 :: u124 :: u125 :: x.s126 :: x.s127 :: x.s128 :: x.s129 :: x.s130 :: x.s131 :: x.s132 :: x.s133 :: x.s134 :: x.s135 :: x.s136 :: x.s137 :: x.s138 :: x.s139 :: x.s140 :: x.s141 :: x.s142 :: x.s143 :: x.s144 :: x.s145 :: x.s146 :: x.s147 :: x.s148 :: x.s149 :: x.s150 :: x.s151 :: x.s152 :: x.s153 :: x.s154 :: x.s155 :: x.s156 :: x.s157 :: x.s158 :: x.s159 :: x.s160 :: x.s161 :: x.s162 :: x.s163 :: []), defers := [] }) (fun x W => (x.b0 = true → x.s126 = .int .u64 VN) ∧ (x.b1 = true → x.s127 = .int .u64 VN) ∧ (x.b2 = true → x.s128 = .bool true) ∧ (x.b3 = true → x.s129 = .bool true) ∧ (x.b4 = true → x.s130 = .int .i64 HN) ∧ (x.b5 = true → x.s131 = .int .i64 HN) ∧ (x.b6 = true → x.s132 = .bool true) ∧ (x.b7 = true → x.s133 = .bool true) ∧ (x.b8 = true → x.s134 = .bool true) ∧ (x.b9 = true → x.s135 = .agg #[.slice ra gn rc]) ∧ (x.b10 = true → x.s136 = .agg #[.slice rb gn rd]) ∧ (x.b11 = true → x.s137 = .bool true) ∧ (x.b12 = true → x.s138 = .bool true) ∧ (x.b13 = true → x.s139 = .bool true) ∧ (x.b14 = true → x.s140 = .int .i64 HN) ∧ (x.b15 = true → x.s141 = .int .i64 HN) ∧ (x.b16 = true → x.s142 = .bool true) ∧ (x.b17 = true → x.s143 = .bool true) ∧ (x.b18 = true → x.s144 = .bool true) ∧ (x.b19 = true → x.s145 = .agg #[.slice sa nn sc]) ∧ (x.b20 = true → x.s146 = .agg #[.slice ta nn tc]) ∧ (x.b21 = true → x.s147 = .bool true) ∧ (x.b22 = true → x.s148 = .bool true) ∧ (x.b23 = true → x.s149 = .bool true) ∧ (x.b24 = true → x.s150 = .int .i64 NF) ∧ (x.b25 = true → x.s151 = .int .i64 NF) ∧ (x.b26 = true → x.s152 = .bool true) ∧ (x.b27 = true → x.s153 = .bool true) ∧ (x.b28 = true → x.s154 = .bool true) ∧ (x.b29 = true → x.s155 = .agg #[.slice a N c]) ∧ (x.b30 = true → x.s156 = .bool true) ∧ (x.b31 = true → x.s157 = .agg #[.slice a N c]) ∧ (x.b32 = true → x.s158 = .bool true) ∧ (x.b33 = true → x.s159 = .bool true) ∧ (x.b34 = true → x.s160 = .bool true) ∧ (x.b35 = true → x.s161 = .bool true) ∧ (x.b36 = true → x.s162 = .bool true) ∧ (x.b37 = true → x.s163 = .bool true) ∧ (x.b38 = true → x.s10 = .bool true) ∧ (Below W0.heap.size W0 W)) ⟨false, false, false, false, false, false, false, false, false, false, false, false, false, false, false, false, false, false, false, false, false, false, false, false, false, false, false, false, false, false, false, false, false, false, false, false, false, false, false, u126, u127, u128, u129, u130, u131, u132, u133, u134, u135, u136, u137, u138, u139, u140, u141, u142, u143, u144, u145, u146, u147, u148, u149, u150, u151, u152, u153, u154, u155, u156, u157, u158, u159, u160, u161, u162, u163, .bool false⟩ rfl rfl ⟨(fun h => by cases h), (fun h => by cases h), (fun h => by cases h), (fun h => by cases h), (fun h => by cases h), (fun h => by cases h), (fun h => by cases h), (fun h => by cases h), (fun h => by cases h), (fun h => by cases h), (fun h => by cases h), (fun h => by cases h), (fun h => by cases h), (fun h => by cases h), (fun h => by cases h), (fun h => by cases h), (fun h => by cases h), (fun h => by cases h), (fun h => by cases h), (fun h => by cases h), (fun h => by cases h), (fun h => by cases h), (fun h => by cases h), (fun h => by cases h), (fun h => by cases h), (fun h => by cases h), (fun h => by cases h), (fun h => by cases h), (fun h => by cases h), (fun h => by cases h), (fun h => by cases h), (fun h => by cases h), (fun h => by cases h), (fun h => by cases h), (fun h => by cases h), (fun h => by cases h), (fun h => by cases h), (fun h => by cases h), (fun h => by cases h), (Below.refl _ _).drew⟩ (fun _ => rfl) ?hstep ?hdone
  case hstep =>
    rintro ⟨b0, b1, b2, b3, b4, b5, b6, b7, b8, b9, b10, b11, b12, b13, b14, b15, b16, b17, b18, b19, b20, b21, b22, b23, b24, b25, b26, b27, b28, b29, b30, b31, b32, b33, b34, b35, b36, b37, b38, s126, s127, s128, s129, s130, s131, s132, s133, s134, s135, s136, s137, s138, s139, s140, s141, s142, s143, s144, s145, s146, s147, s148, s149, s150, s151, s152, s153, s154, s155, s156, s157, s158, s159, s160, s161, s162, s163, s10⟩ W hI i hi
    dsimp only at hI hi ⊢
    have HI := Lib.hid hI
    clear hI
    rw [Region.ready, List.mem_filter, List.mem_range] at hi
    obtain ⟨hlt, hp⟩ := hi
    have hi7 : i = 0 ∨ i = 1 ∨ i = 2 ∨ i = 3 ∨ i = 4 ∨ i = 5 ∨ i = 6 ∨ i = 7 ∨ i = 8 ∨ i = 9 ∨ i = 10 ∨ i = 11 ∨ i = 12 ∨ i = 13 ∨ i = 14 ∨ i = 15 ∨ i = 16 ∨ i = 17 ∨ i = 18 ∨ i = 19 ∨ i = 20 ∨ i = 21 ∨ i = 22 ∨ i = 23 ∨ i = 24 ∨ i = 25 ∨ i = 26 ∨ i = 27 ∨ i = 28 ∨ i = 29 ∨ i = 30 ∨ i = 31 ∨ i = 32 ∨ i = 33 ∨ i = 34 ∨ i = 35 ∨ i = 36 ∨ i = 37 ∨ i = 38 := by simp at hlt; omega
    clear hlt
    rcases hi7 with rfl | rfl | rfl | rfl | rfl | rfl | rfl | rfl | rfl | rfl | rfl | rfl | rfl | rfl | rfl | rfl | rfl | rfl | rfl | rfl | rfl | rfl | rfl | rfl | rfl | rfl | rfl | rfl | rfl | rfl | rfl | rfl | rfl | rfl | rfl | rfl | rfl | rfl | rfl
    all_goals simp [Region.binds] at hp
    · have hn0 : b0 = false := by revert hp; cases b0 <;> simp
      clear hp
      subst hn0
      refine inv_op (o := ⟨some 126, _, _, _, _, _⟩) rfl (fun K' hK' => ?_)
      go_simp
      obtain ⟨h0, h1, h2, h3, h4, h5, h6, h7, h8, h9, h10, h11, h12, h13, h14, h15, h16, h17, h18, h19, h20, h21, h22, h23, h24, h25, h26, h27, h28, h29, h30, h31, h32, h33, h34, h35, h36, h37, h38, gW⟩ := HI.out
      exact hK'.out _ _ ⟨⟨true, b1, b2, b3, b4, b5, b6, b7, b8, b9, b10, b11, b12, b13, b14, b15, b16, b17, b18, b19, b20, b21, b22, b23, b24, b25, b26, b27, b28, b29, b30, b31, b32, b33, b34, b35, b36, b37, b38, _, s127, s128, s129, s130, s131, s132, s133, s134, s135, s136, s137, s138, s139, s140, s141, s142, s143, s144, s145, s146, s147, s148, s149, s150, s151, s152, s153, s154, s155, s156, s157, s158, s159, s160, s161, s162, s163, s10⟩, rfl, rfl, (fun _ => rfl), h1, h2, h3, h4, h5, h6, h7, h8, h9, h10, h11, h12, h13, h14, h15, h16, h17, h18, h19, h20, h21, h22, h23, h24, h25, h26, h27, h28, h29, h30, h31, h32, h33, h34, h35, h36, h37, h38, gW⟩
    · have hn1 : b1 = false := by revert hp; cases b1 <;> simp
      clear hp
      subst hn1
      refine inv_op (o := ⟨some 127, _, _, _, _, _⟩) rfl (fun K' hK' => ?_)
      go_simp
      obtain ⟨h0, h1, h2, h3, h4, h5, h6, h7, h8, h9, h10, h11, h12, h13, h14, h15, h16, h17, h18, h19, h20, h21, h22, h23, h24, h25, h26, h27, h28, h29, h30, h31, h32, h33, h34, h35, h36, h37, h38, gW⟩ := HI.out
      exact hK'.out _ _ ⟨⟨b0, true, b2, b3, b4, b5, b6, b7, b8, b9, b10, b11, b12, b13, b14, b15, b16, b17, b18, b19, b20, b21, b22, b23, b24, b25, b26, b27, b28, b29, b30, b31, b32, b33, b34, b35, b36, b37, b38, s126, _, s128, s129, s130, s131, s132, s133, s134, s135, s136, s137, s138, s139, s140, s141, s142, s143, s144, s145, s146, s147, s148, s149, s150, s151, s152, s153, s154, s155, s156, s157, s158, s159, s160, s161, s162, s163, s10⟩, rfl, rfl, h0, (fun _ => rfl), h2, h3, h4, h5, h6, h7, h8, h9, h10, h11, h12, h13, h14, h15, h16, h17, h18, h19, h20, h21, h22, h23, h24, h25, h26, h27, h28, h29, h30, h31, h32, h33, h34, h35, h36, h37, h38, gW⟩
    · have hn2 : b2 = false := by revert hp; cases b2 <;> simp
      have e0 : b0 = true := by revert hp; cases b0 <;> simp
      have e1 : b1 = true := by revert hp; cases b1 <;> simp
      clear hp
      obtain rfl := (HI.out.1) e0
      obtain rfl := (HI.out.2.1) e1
      subst hn2
      refine inv_op (o := ⟨some 128, _, _, _, _, _⟩) rfl (fun K' hK' => ?_)
      go_simp
      obtain ⟨h0, h1, h2, h3, h4, h5, h6, h7, h8, h9, h10, h11, h12, h13, h14, h15, h16, h17, h18, h19, h20, h21, h22, h23, h24, h25, h26, h27, h28, h29, h30, h31, h32, h33, h34, h35, h36, h37, h38, gW⟩ := HI.out
      exact hK'.out _ _ ⟨⟨b0, b1, true, b3, b4, b5, b6, b7, b8, b9, b10, b11, b12, b13, b14, b15, b16, b17, b18, b19, b20, b21, b22, b23, b24, b25, b26, b27, b28, b29, b30, b31, b32, b33, b34, b35, b36, b37, b38, _, _, _, s129, s130, s131, s132, s133, s134, s135, s136, s137, s138, s139, s140, s141, s142, s143, s144, s145, s146, s147, s148, s149, s150, s151, s152, s153, s154, s155, s156, s157, s158, s159, s160, s161, s162, s163, s10⟩, rfl, rfl, h0, h1, (fun _ => rfl), h3, h4, h5, h6, h7, h8, h9, h10, h11, h12, h13, h14, h15, h16, h17, h18, h19, h20, h21, h22, h23, h24, h25, h26, h27, h28, h29, h30, h31, h32, h33, h34, h35, h36, h37, h38, gW⟩
    · have hn3 : b3 = false := by revert hp; cases b3 <;> simp
      have e2 : b2 = true := by revert hp; cases b2 <;> simp
      clear hp
      obtain rfl := (HI.out.2.2.1) e2
      subst hn3
      refine inv_op (o := ⟨some 129, _, _, _, _, _⟩) rfl (fun K' hK' => ?_)
      go_simp
      obtain ⟨h0, h1, h2, h3, h4, h5, h6, h7, h8, h9, h10, h11, h12, h13, h14, h15, h16, h17, h18, h19, h20, h21, h22, h23, h24, h25, h26, h27, h28, h29, h30, h31, h32, h33, h34, h35, h36, h37, h38, gW⟩ := HI.out
      exact hK'.out _ _ ⟨⟨b0, b1, b2, true, b4, b5, b6, b7, b8, b9, b10, b11, b12, b13, b14, b15, b16, b17, b18, b19, b20, b21, b22, b23, b24, b25, b26, b27, b28, b29, b30, b31, b32, b33, b34, b35, b36, b37, b38, s126, s127, _, _, s130, s131, s132, s133, s134, s135, s136, s137, s138, s139, s140, s141, s142, s143, s144, s145, s146, s147, s148, s149, s150, s151, s152, s153, s154, s155, s156, s157, s158, s159, s160, s161, s162, s163, s10⟩, rfl, rfl, h0, h1, h2, (fun _ => rfl), h4, h5, h6, h7, h8, h9, h10, h11, h12, h13, h14, h15, h16, h17, h18, h19, h20, h21, h22, h23, h24, h25, h26, h27, h28, h29, h30, h31, h32, h33, h34, h35, h36, h37, h38, gW⟩
    · have hn4 : b4 = false := by revert hp; cases b4 <;> simp
      have e3 : b3 = true := by revert hp; cases b3 <;> simp
      clear hp
      obtain rfl := (HI.out.2.2.2.1) e3
      subst hn4
      refine inv_op (o := ⟨some 130, _, _, _, _, _⟩) rfl (fun K' hK' => ?_)
      go_simp
      obtain ⟨h0, h1, h2, h3, h4, h5, h6, h7, h8, h9, h10, h11, h12, h13, h14, h15, h16, h17, h18, h19, h20, h21, h22, h23, h24, h25, h26, h27, h28, h29, h30, h31, h32, h33, h34, h35, h36, h37, h38, gW⟩ := HI.out
      exact hK'.out _ _ ⟨⟨b0, b1, b2, b3, true, b5, b6, b7, b8, b9, b10, b11, b12, b13, b14, b15, b16, b17, b18, b19, b20, b21, b22, b23, b24, b25, b26, b27, b28, b29, b30, b31, b32, b33, b34, b35, b36, b37, b38, s126, s127, s128, _, _, s131, s132, s133, s134, s135, s136, s137, s138, s139, s140, s141, s142, s143, s144, s145, s146, s147, s148, s149, s150, s151, s152, s153, s154, s155, s156, s157, s158, s159, s160, s161, s162, s163, s10⟩, rfl, rfl, h0, h1, h2, h3, (fun _ => rfl), h5, h6, h7, h8, h9, h10, h11, h12, h13, h14, h15, h16, h17, h18, h19, h20, h21, h22, h23, h24, h25, h26, h27, h28, h29, h30, h31, h32, h33, h34, h35, h36, h37, h38, gW⟩
    · have hn5 : b5 = false := by revert hp; cases b5 <;> simp
      have e3 : b3 = true := by revert hp; cases b3 <;> simp
      clear hp
      obtain rfl := (HI.out.2.2.2.1) e3
      subst hn5
      refine inv_op (o := ⟨some 131, _, _, _, _, _⟩) rfl (fun K' hK' => ?_)
      go_simp
      obtain ⟨h0, h1, h2, h3, h4, h5, h6, h7, h8, h9, h10, h11, h12, h13, h14, h15, h16, h17, h18, h19, h20, h21, h22, h23, h24, h25, h26, h27, h28, h29, h30, h31, h32, h33, h34, h35, h36, h37, h38, gW⟩ := HI.out
      exact hK'.out _ _ ⟨⟨b0, b1, b2, b3, b4, true, b6, b7, b8, b9, b10, b11, b12, b13, b14, b15, b16, b17, b18, b19, b20, b21, b22, b23, b24, b25, b26, b27, b28, b29, b30, b31, b32, b33, b34, b35, b36, b37, b38, s126, s127, s128, _, s130, _, s132, s133, s134, s135, s136, s137, s138, s139, s140, s141, s142, s143, s144, s145, s146, s147, s148, s149, s150, s151, s152, s153, s154, s155, s156, s157, s158, s159, s160, s161, s162, s163, s10⟩, rfl, rfl, h0, h1, h2, h3, h4, (fun _ => rfl), h6, h7, h8, h9, h10, h11, h12, h13, h14, h15, h16, h17, h18, h19, h20, h21, h22, h23, h24, h25, h26, h27, h28, h29, h30, h31, h32, h33, h34, h35, h36, h37, h38, gW⟩
    · have hn6 : b6 = false := by revert hp; cases b6 <;> simp
      have e3 : b3 = true := by revert hp; cases b3 <;> simp
      have e4 : b4 = true := by revert hp; cases b4 <;> simp
      have e5 : b5 = true := by revert hp; cases b5 <;> simp
      clear hp
      obtain rfl := (HI.out.2.2.2.1) e3
      obtain rfl := (HI.out.2.2.2.2.1) e4
      obtain rfl := (HI.out.2.2.2.2.2.1) e5
      subst hn6
      refine inv_op (o := ⟨some 132, _, _, _, _, _⟩) rfl (fun K' hK' => ?_)
      go_simp
      obtain ⟨h0, h1, h2, h3, h4, h5, h6, h7, h8, h9, h10, h11, h12, h13, h14, h15, h16, h17, h18, h19, h20, h21, h22, h23, h24, h25, h26, h27, h28, h29, h30, h31, h32, h33, h34, h35, h36, h37, h38, gW⟩ := HI.out
      exact hK'.out _ _ ⟨⟨b0, b1, b2, b3, b4, b5, true, b7, b8, b9, b10, b11, b12, b13, b14, b15, b16, b17, b18, b19, b20, b21, b22, b23, b24, b25, b26, b27, b28, b29, b30, b31, b32, b33, b34, b35, b36, b37, b38, s126, s127, s128, _, _, _, _, s133, s134, s135, s136, s137, s138, s139, s140, s141, s142, s143, s144, s145, s146, s147, s148, s149, s150, s151, s152, s153, s154, s155, s156, s157, s158, s159, s160, s161, s162, s163, s10⟩, rfl, rfl, h0, h1, h2, h3, h4, h5, (fun _ => rfl), h7, h8, h9, h10, h11, h12, h13, h14, h15, h16, h17, h18, h19, h20, h21, h22, h23, h24, h25, h26, h27, h28, h29, h30, h31, h32, h33, h34, h35, h36, h37, h38, gW⟩
    · have hn7 : b7 = false := by revert hp; cases b7 <;> simp
      have e3 : b3 = true := by revert hp; cases b3 <;> simp
      have e6 : b6 = true := by revert hp; cases b6 <;> simp
      clear hp
      obtain rfl := (HI.out.2.2.2.1) e3
      obtain rfl := (HI.out.2.2.2.2.2.2.1) e6
      subst hn7
      refine inv_op (o := ⟨some 133, _, _, _, _, _⟩) rfl (fun K' hK' => ?_)
      go_simp
      obtain ⟨h0, h1, h2, h3, h4, h5, h6, h7, h8, h9, h10, h11, h12, h13, h14, h15, h16, h17, h18, h19, h20, h21, h22, h23, h24, h25, h26, h27, h28, h29, h30, h31, h32, h33, h34, h35, h36, h37, h38, gW⟩ := HI.out
      exact hK'.out _ _ ⟨⟨b0, b1, b2, b3, b4, b5, b6, true, b8, b9, b10, b11, b12, b13, b14, b15, b16, b17, b18, b19, b20, b21, b22, b23, b24, b25, b26, b27, b28, b29, b30, b31, b32, b33, b34, b35, b36, b37, b38, s126, s127, s128, _, s130, s131, _, _, s134, s135, s136, s137, s138, s139, s140, s141, s142, s143, s144, s145, s146, s147, s148, s149, s150, s151, s152, s153, s154, s155, s156, s157, s158, s159, s160, s161, s162, s163, s10⟩, rfl, rfl, h0, h1, h2, h3, h4, h5, h6, (fun _ => rfl), h8, h9, h10, h11, h12, h13, h14, h15, h16, h17, h18, h19, h20, h21, h22, h23, h24, h25, h26, h27, h28, h29, h30, h31, h32, h33, h34, h35, h36, h37, h38, gW⟩
    · have hn8 : b8 = false := by revert hp; cases b8 <;> simp
      have e7 : b7 = true := by revert hp; cases b7 <;> simp
      clear hp
      obtain rfl := (HI.out.2.2.2.2.2.2.2.1) e7
      subst hn8
      refine inv_op (o := ⟨some 134, _, _, _, _, _⟩) rfl (fun K' hK' => ?_)
      go_simp
      obtain ⟨h0, h1, h2, h3, h4, h5, h6, h7, h8, h9, h10, h11, h12, h13, h14, h15, h16, h17, h18, h19, h20, h21, h22, h23, h24, h25, h26, h27, h28, h29, h30, h31, h32, h33, h34, h35, h36, h37, h38, gW⟩ := HI.out
      exact hK'.out _ _ ⟨⟨b0, b1, b2, b3, b4, b5, b6, b7, true, b9, b10, b11, b12, b13, b14, b15, b16, b17, b18, b19, b20, b21, b22, b23, b24, b25, b26, b27, b28, b29, b30, b31, b32, b33, b34, b35, b36, b37, b38, s126, s127, s128, s129, s130, s131, s132, _, _, s135, s136, s137, s138, s139, s140, s141, s142, s143, s144, s145, s146, s147, s148, s149, s150, s151, s152, s153, s154, s155, s156, s157, s158, s159, s160, s161, s162, s163, s10⟩, rfl, rfl, h0, h1, h2, h3, h4, h5, h6, h7, (fun _ => rfl), h9, h10, h11, h12, h13, h14, h15, h16, h17, h18, h19, h20, h21, h22, h23, h24, h25, h26, h27, h28, h29, h30, h31, h32, h33, h34, h35, h36, h37, h38, gW⟩
    · have hn9 : b9 = false := by revert hp; cases b9 <;> simp
      have e8 : b8 = true := by revert hp; cases b8 <;> simp
      clear hp
      obtain rfl := (HI.out.2.2.2.2.2.2.2.2.1) e8
      subst hn9
      refine inv_op (o := ⟨some 135, _, _, _, _, _⟩) rfl (fun K' hK' => ?_)
      have gW := HI.out.2.2.2.2.2.2.2.2.2.2.2.2.2.2.2.2.2.2.2.2.2.2.2.2.2.2.2.2.2.2.2.2.2.2.2.2.2.2.2
      obtain ⟨hc1, hc2⟩ := one_cell (HP.out W gW)
      go_simp
      obtain ⟨h0, h1, h2, h3, h4, h5, h6, h7, h8, h9, h10, h11, h12, h13, h14, h15, h16, h17, h18, h19, h20, h21, h22, h23, h24, h25, h26, h27, h28, h29, h30, h31, h32, h33, h34, h35, h36, h37, h38, gW⟩ := HI.out
      exact hK'.out _ _ ⟨⟨b0, b1, b2, b3, b4, b5, b6, b7, b8, true, b10, b11, b12, b13, b14, b15, b16, b17, b18, b19, b20, b21, b22, b23, b24, b25, b26, b27, b28, b29, b30, b31, b32, b33, b34, b35, b36, b37, b38, s126, s127, s128, s129, s130, s131, s132, s133, _, _, s136, s137, s138, s139, s140, s141, s142, s143, s144, s145, s146, s147, s148, s149, s150, s151, s152, s153, s154, s155, s156, s157, s158, s159, s160, s161, s162, s163, s10⟩, rfl, rfl, h0, h1, h2, h3, h4, h5, h6, h7, h8, (fun _ => rfl), h10, h11, h12, h13, h14, h15, h16, h17, h18, h19, h20, h21, h22, h23, h24, h25, h26, h27, h28, h29, h30, h31, h32, h33, h34, h35, h36, h37, h38, gW⟩
    · have hn10 : b10 = false := by revert hp; cases b10 <;> simp
      have e8 : b8 = true := by revert hp; cases b8 <;> simp
      clear hp
      obtain rfl := (HI.out.2.2.2.2.2.2.2.2.1) e8
      subst hn10
      refine inv_op (o := ⟨some 136, _, _, _, _, _⟩) rfl (fun K' hK' => ?_)
      have gW := HI.out.2.2.2.2.2.2.2.2.2.2.2.2.2.2.2.2.2.2.2.2.2.2.2.2.2.2.2.2.2.2.2.2.2.2.2.2.2.2.2
      obtain ⟨hc1, hc2⟩ := one_cell (HQ.out W gW)
      go_simp
      obtain ⟨h0, h1, h2, h3, h4, h5, h6, h7, h8, h9, h10, h11, h12, h13, h14, h15, h16, h17, h18, h19, h20, h21, h22, h23, h24, h25, h26, h27, h28, h29, h30, h31, h32, h33, h34, h35, h36, h37, h38, gW⟩ := HI.out
      exact hK'.out _ _ ⟨⟨b0, b1, b2, b3, b4, b5, b6, b7, b8, b9, true, b11, b12, b13, b14, b15, b16, b17, b18, b19, b20, b21, b22, b23, b24, b25, b26, b27, b28, b29, b30, b31, b32, b33, b34, b35, b36, b37, b38, s126, s127, s128, s129, s130, s131, s132, s133, _, s135, _, s137, s138, s139, s140, s141, s142, s143, s144, s145, s146, s147, s148, s149, s150, s151, s152, s153, s154, s155, s156, s157, s158, s159, s160, s161, s162, s163, s10⟩, rfl, rfl, h0, h1, h2, h3, h4, h5, h6, h7, h8, h9, (fun _ => rfl), h11, h12, h13, h14, h15, h16, h17, h18, h19, h20, h21, h22, h23, h24, h25, h26, h27, h28, h29, h30, h31, h32, h33, h34, h35, h36, h37, h38, gW⟩
    · have hn11 : b11 = false := by revert hp; cases b11 <;> simp
      have e8 : b8 = true := by revert hp; cases b8 <;> simp
      have e9 : b9 = true := by revert hp; cases b9 <;> simp
      have e10 : b10 = true := by revert hp; cases b10 <;> simp
      clear hp
      obtain rfl := (HI.out.2.2.2.2.2.2.2.2.1) e8
      obtain rfl := (HI.out.2.2.2.2.2.2.2.2.2.1) e9
      obtain rfl := (HI.out.2.2.2.2.2.2.2.2.2.2.1) e10
      subst hn11
      refine inv_op (o := ⟨some 137, _, _, _, _, _⟩) rfl (fun K' hK' => ?_)
      have gW := HI.out.2.2.2.2.2.2.2.2.2.2.2.2.2.2.2.2.2.2.2.2.2.2.2.2.2.2.2.2.2.2.2.2.2.2.2.2.2.2.2
      go_simp
      refine (HSA.out W gW).mono ?_
      rintro e w1 ⟨rfl, bn⟩
      obtain ⟨h0, h1, h2, h3, h4, h5, h6, h7, h8, h9, h10, h11, h12, h13, h14, h15, h16, h17, h18, h19, h20, h21, h22, h23, h24, h25, h26, h27, h28, h29, h30, h31, h32, h33, h34, h35, h36, h37, h38, gW⟩ := HI.out
      exact hK'.out _ _ ⟨⟨b0, b1, b2, b3, b4, b5, b6, b7, b8, b9, b10, true, b12, b13, b14, b15, b16, b17, b18, b19, b20, b21, b22, b23, b24, b25, b26, b27, b28, b29, b30, b31, b32, b33, b34, b35, b36, b37, b38, s126, s127, s128, s129, s130, s131, s132, s133, _, _, _, _, s138, s139, s140, s141, s142, s143, s144, s145, s146, s147, s148, s149, s150, s151, s152, s153, s154, s155, s156, s157, s158, s159, s160, s161, s162, s163, s10⟩, rfl, rfl, h0, h1, h2, h3, h4, h5, h6, h7, h8, h9, h10, (fun _ => rfl), h12, h13, h14, h15, h16, h17, h18, h19, h20, h21, h22, h23, h24, h25, h26, h27, h28, h29, h30, h31, h32, h33, h34, h35, h36, h37, h38, (gW.trans (bn.mono gW.size))⟩
    · have hn12 : b12 = false := by revert hp; cases b12 <;> simp
      have e8 : b8 = true := by revert hp; cases b8 <;> simp
      have e11 : b11 = true := by revert hp; cases b11 <;> simp
      clear hp
      obtain rfl := (HI.out.2.2.2.2.2.2.2.2.1) e8
      obtain rfl := (HI.out.2.2.2.2.2.2.2.2.2.2.2.1) e11
      subst hn12
      refine inv_op (o := ⟨some 138, _, _, _, _, _⟩) rfl (fun K' hK' => ?_)
      go_simp
      obtain ⟨h0, h1, h2, h3, h4, h5, h6, h7, h8, h9, h10, h11, h12, h13, h14, h15, h16, h17, h18, h19, h20, h21, h22, h23, h24, h25, h26, h27, h28, h29, h30, h31, h32, h33, h34, h35, h36, h37, h38, gW⟩ := HI.out
      exact hK'.out _ _ ⟨⟨b0, b1, b2, b3, b4, b5, b6, b7, b8, b9, b10, b11, true, b13, b14, b15, b16, b17, b18, b19, b20, b21, b22, b23, b24, b25, b26, b27, b28, b29, b30, b31, b32, b33, b34, b35, b36, b37, b38, s126, s127, s128, s129, s130, s131, s132, s133, _, s135, s136, _, _, s139, s140, s141, s142, s143, s144, s145, s146, s147, s148, s149, s150, s151, s152, s153, s154, s155, s156, s157, s158, s159, s160, s161, s162, s163, s10⟩, rfl, rfl, h0, h1, h2, h3, h4, h5, h6, h7, h8, h9, h10, h11, (fun _ => rfl), h13, h14, h15, h16, h17, h18, h19, h20, h21, h22, h23, h24, h25, h26, h27, h28, h29, h30, h31, h32, h33, h34, h35, h36, h37, h38, gW⟩
    · have hn13 : b13 = false := by revert hp; cases b13 <;> simp
      have e12 : b12 = true := by revert hp; cases b12 <;> simp
      clear hp
      obtain rfl := (HI.out.2.2.2.2.2.2.2.2.2.2.2.2.1) e12
      subst hn13
      refine inv_op (o := ⟨some 139, _, _, _, _, _⟩) rfl (fun K' hK' => ?_)
      go_simp
      obtain ⟨h0, h1, h2, h3, h4, h5, h6, h7, h8, h9, h10, h11, h12, h13, h14, h15, h16, h17, h18, h19, h20, h21, h22, h23, h24, h25, h26, h27, h28, h29, h30, h31, h32, h33, h34, h35, h36, h37, h38, gW⟩ := HI.out
      exact hK'.out _ _ ⟨⟨b0, b1, b2, b3, b4, b5, b6, b7, b8, b9, b10, b11, b12, true, b14, b15, b16, b17, b18, b19, b20, b21, b22, b23, b24, b25, b26, b27, b28, b29, b30, b31, b32, b33, b34, b35, b36, b37, b38, s126, s127, s128, s129, s130, s131, s132, s133, s134, s135, s136, s137, _, _, s140, s141, s142, s143, s144, s145, s146, s147, s148, s149, s150, s151, s152, s153, s154, s155, s156, s157, s158, s159, s160, s161, s162, s163, s10⟩, rfl, rfl, h0, h1, h2, h3, h4, h5, h6, h7, h8, h9, h10, h11, h12, (fun _ => rfl), h14, h15, h16, h17, h18, h19, h20, h21, h22, h23, h24, h25, h26, h27, h28, h29, h30, h31, h32, h33, h34, h35, h36, h37, h38, gW⟩
    · have hn14 : b14 = false := by revert hp; cases b14 <;> simp
      have e13 : b13 = true := by revert hp; cases b13 <;> simp
      clear hp
      obtain rfl := (HI.out.2.2.2.2.2.2.2.2.2.2.2.2.2.1) e13
      subst hn14
      refine inv_op (o := ⟨some 140, _, _, _, _, _⟩) rfl (fun K' hK' => ?_)
      go_simp
      obtain ⟨h0, h1, h2, h3, h4, h5, h6, h7, h8, h9, h10, h11, h12, h13, h14, h15, h16, h17, h18, h19, h20, h21, h22, h23, h24, h25, h26, h27, h28, h29, h30, h31, h32, h33, h34, h35, h36, h37, h38, gW⟩ := HI.out
      exact hK'.out _ _ ⟨⟨b0, b1, b2, b3, b4, b5, b6, b7, b8, b9, b10, b11, b12, b13, true, b15, b16, b17, b18, b19, b20, b21, b22, b23, b24, b25, b26, b27, b28, b29, b30, b31, b32, b33, b34, b35, b36, b37, b38, s126, s127, s128, s129, s130, s131, s132, s133, s134, s135, s136, s137, s138, _, _, s141, s142, s143, s144, s145, s146, s147, s148, s149, s150, s151, s152, s153, s154, s155, s156, s157, s158, s159, s160, s161, s162, s163, s10⟩, rfl, rfl, h0, h1, h2, h3, h4, h5, h6, h7, h8, h9, h10, h11, h12, h13, (fun _ => rfl), h15, h16, h17, h18, h19, h20, h21, h22, h23, h24, h25, h26, h27, h28, h29, h30, h31, h32, h33, h34, h35, h36, h37, h38, gW⟩
    · have hn15 : b15 = false := by revert hp; cases b15 <;> simp
      have e13 : b13 = true := by revert hp; cases b13 <;> simp
      clear hp
      obtain rfl := (HI.out.2.2.2.2.2.2.2.2.2.2.2.2.2.1) e13
      subst hn15
      refine inv_op (o := ⟨some 141, _, _, _, _, _⟩) rfl (fun K' hK' => ?_)
      go_simp
      obtain ⟨h0, h1, h2, h3, h4, h5, h6, h7, h8, h9, h10, h11, h12, h13, h14, h15, h16, h17, h18, h19, h20, h21, h22, h23, h24, h25, h26, h27, h28, h29, h30, h31, h32, h33, h34, h35, h36, h37, h38, gW⟩ := HI.out
      exact hK'.out _ _ ⟨⟨b0, b1, b2, b3, b4, b5, b6, b7, b8, b9, b10, b11, b12, b13, b14, true, b16, b17, b18, b19, b20, b21, b22, b23, b24, b25, b26, b27, b28, b29, b30, b31, b32, b33, b34, b35, b36, b37, b38, s126, s127, s128, s129, s130, s131, s132, s133, s134, s135, s136, s137, s138, _, s140, _, s142, s143, s144, s145, s146, s147, s148, s149, s150, s151, s152, s153, s154, s155, s156, s157, s158, s159, s160, s161, s162, s163, s10⟩, rfl, rfl, h0, h1, h2, h3, h4, h5, h6, h7, h8, h9, h10, h11, h12, h13, h14, (fun _ => rfl), h16, h17, h18, h19, h20, h21, h22, h23, h24, h25, h26, h27, h28, h29, h30, h31, h32, h33, h34, h35, h36, h37, h38, gW⟩
    · have hn16 : b16 = false := by revert hp; cases b16 <;> simp
      have e13 : b13 = true := by revert hp; cases b13 <;> simp
      have e14 : b14 = true := by revert hp; cases b14 <;> simp
      have e15 : b15 = true := by revert hp; cases b15 <;> simp
      clear hp
      obtain rfl := (HI.out.2.2.2.2.2.2.2.2.2.2.2.2.2.1) e13
      obtain rfl := (HI.out.2.2.2.2.2.2.2.2.2.2.2.2.2.2.1) e14
      obtain rfl := (HI.out.2.2.2.2.2.2.2.2.2.2.2.2.2.2.2.1) e15
      subst hn16
      refine inv_op (o := ⟨some 142, _, _, _, _, _⟩) rfl (fun K' hK' => ?_)
      go_simp
      obtain ⟨h0, h1, h2, h3, h4, h5, h6, h7, h8, h9, h10, h11, h12, h13, h14, h15, h16, h17, h18, h19, h20, h21, h22, h23, h24, h25, h26, h27, h28, h29, h30, h31, h32, h33, h34, h35, h36, h37, h38, gW⟩ := HI.out
      exact hK'.out _ _ ⟨⟨b0, b1, b2, b3, b4, b5, b6, b7, b8, b9, b10, b11, b12, b13, b14, b15, true, b17, b18, b19, b20, b21, b22, b23, b24, b25, b26, b27, b28, b29, b30, b31, b32, b33, b34, b35, b36, b37, b38, s126, s127, s128, s129, s130, s131, s132, s133, s134, s135, s136, s137, s138, _, _, _, _, s143, s144, s145, s146, s147, s148, s149, s150, s151, s152, s153, s154, s155, s156, s157, s158, s159, s160, s161, s162, s163, s10⟩, rfl, rfl, h0, h1, h2, h3, h4, h5, h6, h7, h8, h9, h10, h11, h12, h13, h14, h15, (fun _ => rfl), h17, h18, h19, h20, h21, h22, h23, h24, h25, h26, h27, h28, h29, h30, h31, h32, h33, h34, h35, h36, h37, h38, gW⟩
    · have hn17 : b17 = false := by revert hp; cases b17 <;> simp
      have e13 : b13 = true := by revert hp; cases b13 <;> simp
      have e16 : b16 = true := by revert hp; cases b16 <;> simp
      clear hp
      obtain rfl := (HI.out.2.2.2.2.2.2.2.2.2.2.2.2.2.1) e13
      obtain rfl := (HI.out.2.2.2.2.2.2.2.2.2.2.2.2.2.2.2.2.1) e16
      subst hn17
      refine inv_op (o := ⟨some 143, _, _, _, _, _⟩) rfl (fun K' hK' => ?_)
      go_simp
      obtain ⟨h0, h1, h2, h3, h4, h5, h6, h7, h8, h9, h10, h11, h12, h13, h14, h15, h16, h17, h18, h19, h20, h21, h22, h23, h24, h25, h26, h27, h28, h29, h30, h31, h32, h33, h34, h35, h36, h37, h38, gW⟩ := HI.out
      exact hK'.out _ _ ⟨⟨b0, b1, b2, b3, b4, b5, b6, b7, b8, b9, b10, b11, b12, b13, b14, b15, b16, true, b18, b19, b20, b21, b22, b23, b24, b25, b26, b27, b28, b29, b30, b31, b32, b33, b34, b35, b36, b37, b38, s126, s127, s128, s129, s130, s131, s132, s133, s134, s135, s136, s137, s138, _, s140, s141, _, _, s144, s145, s146, s147, s148, s149, s150, s151, s152, s153, s154, s155, s156, s157, s158, s159, s160, s161, s162, s163, s10⟩, rfl, rfl, h0, h1, h2, h3, h4, h5, h6, h7, h8, h9, h10, h11, h12, h13, h14, h15, h16, (fun _ => rfl), h18, h19, h20, h21, h22, h23, h24, h25, h26, h27, h28, h29, h30, h31, h32, h33, h34, h35, h36, h37, h38, gW⟩
    · have hn18 : b18 = false := by revert hp; cases b18 <;> simp
      have e17 : b17 = true := by revert hp; cases b17 <;> simp
      clear hp
      obtain rfl := (HI.out.2.2.2.2.2.2.2.2.2.2.2.2.2.2.2.2.2.1) e17
      subst hn18
      refine inv_op (o := ⟨some 144, _, _, _, _, _⟩) rfl (fun K' hK' => ?_)
      go_simp
      obtain ⟨h0, h1, h2, h3, h4, h5, h6, h7, h8, h9, h10, h11, h12, h13, h14, h15, h16, h17, h18, h19, h20, h21, h22, h23, h24, h25, h26, h27, h28, h29, h30, h31, h32, h33, h34, h35, h36, h37, h38, gW⟩ := HI.out
      exact hK'.out _ _ ⟨⟨b0, b1, b2, b3, b4, b5, b6, b7, b8, b9, b10, b11, b12, b13, b14, b15, b16, b17, true, b19, b20, b21, b22, b23, b24, b25, b26, b27, b28, b29, b30, b31, b32, b33, b34, b35, b36, b37, b38, s126, s127, s128, s129, s130, s131, s132, s133, s134, s135, s136, s137, s138, s139, s140, s141, s142, _, _, s145, s146, s147, s148, s149, s150, s151, s152, s153, s154, s155, s156, s157, s158, s159, s160, s161, s162, s163, s10⟩, rfl, rfl, h0, h1, h2, h3, h4, h5, h6, h7, h8, h9, h10, h11, h12, h13, h14, h15, h16, h17, (fun _ => rfl), h19, h20, h21, h22, h23, h24, h25, h26, h27, h28, h29, h30, h31, h32, h33, h34, h35, h36, h37, h38, gW⟩
    · have hn19 : b19 = false := by revert hp; cases b19 <;> simp
      have e18 : b18 = true := by revert hp; cases b18 <;> simp
      clear hp
      obtain rfl := (HI.out.2.2.2.2.2.2.2.2.2.2.2.2.2.2.2.2.2.2.1) e18
      subst hn19
      refine inv_op (o := ⟨some 145, _, _, _, _, _⟩) rfl (fun K' hK' => ?_)
      have gW := HI.out.2.2.2.2.2.2.2.2.2.2.2.2.2.2.2.2.2.2.2.2.2.2.2.2.2.2.2.2.2.2.2.2.2.2.2.2.2.2.2
      obtain ⟨hc1, hc2⟩ := one_cell (HS.out W gW)
      go_simp
      obtain ⟨h0, h1, h2, h3, h4, h5, h6, h7, h8, h9, h10, h11, h12, h13, h14, h15, h16, h17, h18, h19, h20, h21, h22, h23, h24, h25, h26, h27, h28, h29, h30, h31, h32, h33, h34, h35, h36, h37, h38, gW⟩ := HI.out
      exact hK'.out _ _ ⟨⟨b0, b1, b2, b3, b4, b5, b6, b7, b8, b9, b10, b11, b12, b13, b14, b15, b16, b17, b18, true, b20, b21, b22, b23, b24, b25, b26, b27, b28, b29, b30, b31, b32, b33, b34, b35, b36, b37, b38, s126, s127, s128, s129, s130, s131, s132, s133, s134, s135, s136, s137, s138, s139, s140, s141, s142, s143, _, _, s146, s147, s148, s149, s150, s151, s152, s153, s154, s155, s156, s157, s158, s159, s160, s161, s162, s163, s10⟩, rfl, rfl, h0, h1, h2, h3, h4, h5, h6, h7, h8, h9, h10, h11, h12, h13, h14, h15, h16, h17, h18, (fun _ => rfl), h20, h21, h22, h23, h24, h25, h26, h27, h28, h29, h30, h31, h32, h33, h34, h35, h36, h37, h38, gW⟩
    · have hn20 : b20 = false := by revert hp; cases b20 <;> simp
      have e18 : b18 = true := by revert hp; cases b18 <;> simp
      clear hp
      obtain rfl := (HI.out.2.2.2.2.2.2.2.2.2.2.2.2.2.2.2.2.2.2.1) e18
      subst hn20
      refine inv_op (o := ⟨some 146, _, _, _, _, _⟩) rfl (fun K' hK' => ?_)
      have gW := HI.out.2.2.2.2.2.2.2.2.2.2.2.2.2.2.2.2.2.2.2.2.2.2.2.2.2.2.2.2.2.2.2.2.2.2.2.2.2.2.2
      obtain ⟨hc1, hc2⟩ := one_cell (HT.out W gW)
      go_simp
      obtain ⟨h0, h1, h2, h3, h4, h5, h6, h7, h8, h9, h10, h11, h12, h13, h14, h15, h16, h17, h18, h19, h20, h21, h22, h23, h24, h25, h26, h27, h28, h29, h30, h31, h32, h33, h34, h35, h36, h37, h38, gW⟩ := HI.out
      exact hK'.out _ _ ⟨⟨b0, b1, b2, b3, b4, b5, b6, b7, b8, b9, b10, b11, b12, b13, b14, b15, b16, b17, b18, b19, true, b21, b22, b23, b24, b25, b26, b27, b28, b29, b30, b31, b32, b33, b34, b35, b36, b37, b38, s126, s127, s128, s129, s130, s131, s132, s133, s134, s135, s136, s137, s138, s139, s140, s141, s142, s143, _, s145, _, s147, s148, s149, s150, s151, s152, s153, s154, s155, s156, s157, s158, s159, s160, s161, s162, s163, s10⟩, rfl, rfl, h0, h1, h2, h3, h4, h5, h6, h7, h8, h9, h10, h11, h12, h13, h14, h15, h16, h17, h18, h19, (fun _ => rfl), h21, h22, h23, h24, h25, h26, h27, h28, h29, h30, h31, h32, h33, h34, h35, h36, h37, h38, gW⟩
    · have hn21 : b21 = false := by revert hp; cases b21 <;> simp
      have e18 : b18 = true := by revert hp; cases b18 <;> simp
      have e19 : b19 = true := by revert hp; cases b19 <;> simp
      have e20 : b20 = true := by revert hp; cases b20 <;> simp
      clear hp
      obtain rfl := (HI.out.2.2.2.2.2.2.2.2.2.2.2.2.2.2.2.2.2.2.1) e18
      obtain rfl := (HI.out.2.2.2.2.2.2.2.2.2.2.2.2.2.2.2.2.2.2.2.1) e19
      obtain rfl := (HI.out.2.2.2.2.2.2.2.2.2.2.2.2.2.2.2.2.2.2.2.2.1) e20
      subst hn21
      refine inv_op (o := ⟨some 147, _, _, _, _, _⟩) rfl (fun K' hK' => ?_)
      have gW := HI.out.2.2.2.2.2.2.2.2.2.2.2.2.2.2.2.2.2.2.2.2.2.2.2.2.2.2.2.2.2.2.2.2.2.2.2.2.2.2.2
      go_simp
      refine (HSB.out W gW).mono ?_
      rintro e w1 ⟨rfl, bn⟩
      obtain ⟨h0, h1, h2, h3, h4, h5, h6, h7, h8, h9, h10, h11, h12, h13, h14, h15, h16, h17, h18, h19, h20, h21, h22, h23, h24, h25, h26, h27, h28, h29, h30, h31, h32, h33, h34, h35, h36, h37, h38, gW⟩ := HI.out
      exact hK'.out _ _ ⟨⟨b0, b1, b2, b3, b4, b5, b6, b7, b8, b9, b10, b11, b12, b13, b14, b15, b16, b17, b18, b19, b20, true, b22, b23, b24, b25, b26, b27, b28, b29, b30, b31, b32, b33, b34, b35, b36, b37, b38, s126, s127, s128, s129, s130, s131, s132, s133, s134, s135, s136, s137, s138, s139, s140, s141, s142, s143, _, _, _, _, s148, s149, s150, s151, s152, s153, s154, s155, s156, s157, s158, s159, s160, s161, s162, s163, s10⟩, rfl, rfl, h0, h1, h2, h3, h4, h5, h6, h7, h8, h9, h10, h11, h12, h13, h14, h15, h16, h17, h18, h19, h20, (fun _ => rfl), h22, h23, h24, h25, h26, h27, h28, h29, h30, h31, h32, h33, h34, h35, h36, h37, h38, (gW.trans (bn.mono gW.size))⟩
    · have hn22 : b22 = false := by revert hp; cases b22 <;> simp
      have e18 : b18 = true := by revert hp; cases b18 <;> simp
      have e21 : b21 = true := by revert hp; cases b21 <;> simp
      clear hp
      obtain rfl := (HI.out.2.2.2.2.2.2.2.2.2.2.2.2.2.2.2.2.2.2.1) e18
      obtain rfl := (HI.out.2.2.2.2.2.2.2.2.2.2.2.2.2.2.2.2.2.2.2.2.2.1) e21
      subst hn22
      refine inv_op (o := ⟨some 148, _, _, _, _, _⟩) rfl (fun K' hK' => ?_)
      go_simp
      obtain ⟨h0, h1, h2, h3, h4, h5, h6, h7, h8, h9, h10, h11, h12, h13, h14, h15, h16, h17, h18, h19, h20, h21, h22, h23, h24, h25, h26, h27, h28, h29, h30, h31, h32, h33, h34, h35, h36, h37, h38, gW⟩ := HI.out
      exact hK'.out _ _ ⟨⟨b0, b1, b2, b3, b4, b5, b6, b7, b8, b9, b10, b11, b12, b13, b14, b15, b16, b17, b18, b19, b20, b21, true, b23, b24, b25, b26, b27, b28, b29, b30, b31, b32, b33, b34, b35, b36, b37, b38, s126, s127, s128, s129, s130, s131, s132, s133, s134, s135, s136, s137, s138, s139, s140, s141, s142, s143, _, s145, s146, _, _, s149, s150, s151, s152, s153, s154, s155, s156, s157, s158, s159, s160, s161, s162, s163, s10⟩, rfl, rfl, h0, h1, h2, h3, h4, h5, h6, h7, h8, h9, h10, h11, h12, h13, h14, h15, h16, h17, h18, h19, h20, h21, (fun _ => rfl), h23, h24, h25, h26, h27, h28, h29, h30, h31, h32, h33, h34, h35, h36, h37, h38, gW⟩
    · have hn23 : b23 = false := by revert hp; cases b23 <;> simp
      have e22 : b22 = true := by revert hp; cases b22 <;> simp
      clear hp
      obtain rfl := (HI.out.2.2.2.2.2.2.2.2.2.2.2.2.2.2.2.2.2.2.2.2.2.2.1) e22
      subst hn23
      refine inv_op (o := ⟨some 149, _, _, _, _, _⟩) rfl (fun K' hK' => ?_)
      go_simp
      obtain ⟨h0, h1, h2, h3, h4, h5, h6, h7, h8, h9, h10, h11, h12, h13, h14, h15, h16, h17, h18, h19, h20, h21, h22, h23, h24, h25, h26, h27, h28, h29, h30, h31, h32, h33, h34, h35, h36, h37, h38, gW⟩ := HI.out
      exact hK'.out _ _ ⟨⟨b0, b1, b2, b3, b4, b5, b6, b7, b8, b9, b10, b11, b12, b13, b14, b15, b16, b17, b18, b19, b20, b21, b22, true, b24, b25, b26, b27, b28, b29, b30, b31, b32, b33, b34, b35, b36, b37, b38, s126, s127, s128, s129, s130, s131, s132, s133, s134, s135, s136, s137, s138, s139, s140, s141, s142, s143, s144, s145, s146, s147, _, _, s150, s151, s152, s153, s154, s155, s156, s157, s158, s159, s160, s161, s162, s163, s10⟩, rfl, rfl, h0, h1, h2, h3, h4, h5, h6, h7, h8, h9, h10, h11, h12, h13, h14, h15, h16, h17, h18, h19, h20, h21, h22, (fun _ => rfl), h24, h25, h26, h27, h28, h29, h30, h31, h32, h33, h34, h35, h36, h37, h38, gW⟩
    · have hn24 : b24 = false := by revert hp; cases b24 <;> simp
      have e23 : b23 = true := by revert hp; cases b23 <;> simp
      clear hp
      obtain rfl := (HI.out.2.2.2.2.2.2.2.2.2.2.2.2.2.2.2.2.2.2.2.2.2.2.2.1) e23
      subst hn24
      refine inv_op (o := ⟨some 150, _, _, _, _, _⟩) rfl (fun K' hK' => ?_)
      go_simp
      obtain ⟨h0, h1, h2, h3, h4, h5, h6, h7, h8, h9, h10, h11, h12, h13, h14, h15, h16, h17, h18, h19, h20, h21, h22, h23, h24, h25, h26, h27, h28, h29, h30, h31, h32, h33, h34, h35, h36, h37, h38, gW⟩ := HI.out
      exact hK'.out _ _ ⟨⟨b0, b1, b2, b3, b4, b5, b6, b7, b8, b9, b10, b11, b12, b13, b14, b15, b16, b17, b18, b19, b20, b21, b22, b23, true, b25, b26, b27, b28, b29, b30, b31, b32, b33, b34, b35, b36, b37, b38, s126, s127, s128, s129, s130, s131, s132, s133, s134, s135, s136, s137, s138, s139, s140, s141, s142, s143, s144, s145, s146, s147, s148, _, _, s151, s152, s153, s154, s155, s156, s157, s158, s159, s160, s161, s162, s163, s10⟩, rfl, rfl, h0, h1, h2, h3, h4, h5, h6, h7, h8, h9, h10, h11, h12, h13, h14, h15, h16, h17, h18, h19, h20, h21, h22, h23, (fun _ => rfl), h25, h26, h27, h28, h29, h30, h31, h32, h33, h34, h35, h36, h37, h38, gW⟩
    · have hn25 : b25 = false := by revert hp; cases b25 <;> simp
      have e23 : b23 = true := by revert hp; cases b23 <;> simp
      clear hp
      obtain rfl := (HI.out.2.2.2.2.2.2.2.2.2.2.2.2.2.2.2.2.2.2.2.2.2.2.2.1) e23
      subst hn25
      refine inv_op (o := ⟨some 151, _, _, _, _, _⟩) rfl (fun K' hK' => ?_)
      go_simp
      obtain ⟨h0, h1, h2, h3, h4, h5, h6, h7, h8, h9, h10, h11, h12, h13, h14, h15, h16, h17, h18, h19, h20, h21, h22, h23, h24, h25, h26, h27, h28, h29, h30, h31, h32, h33, h34, h35, h36, h37, h38, gW⟩ := HI.out
      exact hK'.out _ _ ⟨⟨b0, b1, b2, b3, b4, b5, b6, b7, b8, b9, b10, b11, b12, b13, b14, b15, b16, b17, b18, b19, b20, b21, b22, b23, b24, true, b26, b27, b28, b29, b30, b31, b32, b33, b34, b35, b36, b37, b38, s126, s127, s128, s129, s130, s131, s132, s133, s134, s135, s136, s137, s138, s139, s140, s141, s142, s143, s144, s145, s146, s147, s148, _, s150, _, s152, s153, s154, s155, s156, s157, s158, s159, s160, s161, s162, s163, s10⟩, rfl, rfl, h0, h1, h2, h3, h4, h5, h6, h7, h8, h9, h10, h11, h12, h13, h14, h15, h16, h17, h18, h19, h20, h21, h22, h23, h24, (fun _ => rfl), h26, h27, h28, h29, h30, h31, h32, h33, h34, h35, h36, h37, h38, gW⟩
    · have hn26 : b26 = false := by revert hp; cases b26 <;> simp
      have e23 : b23 = true := by revert hp; cases b23 <;> simp
      have e24 : b24 = true := by revert hp; cases b24 <;> simp
      have e25 : b25 = true := by revert hp; cases b25 <;> simp
      clear hp
      obtain rfl := (HI.out.2.2.2.2.2.2.2.2.2.2.2.2.2.2.2.2.2.2.2.2.2.2.2.1) e23
      obtain rfl := (HI.out.2.2.2.2.2.2.2.2.2.2.2.2.2.2.2.2.2.2.2.2.2.2.2.2.1) e24
      obtain rfl := (HI.out.2.2.2.2.2.2.2.2.2.2.2.2.2.2.2.2.2.2.2.2.2.2.2.2.2.1) e25
      subst hn26
      refine inv_op (o := ⟨some 152, _, _, _, _, _⟩) rfl (fun K' hK' => ?_)
      go_simp
      obtain ⟨h0, h1, h2, h3, h4, h5, h6, h7, h8, h9, h10, h11, h12, h13, h14, h15, h16, h17, h18, h19, h20, h21, h22, h23, h24, h25, h26, h27, h28, h29, h30, h31, h32, h33, h34, h35, h36, h37, h38, gW⟩ := HI.out
      exact hK'.out _ _ ⟨⟨b0, b1, b2, b3, b4, b5, b6, b7, b8, b9, b10, b11, b12, b13, b14, b15, b16, b17, b18, b19, b20, b21, b22, b23, b24, b25, true, b27, b28, b29, b30, b31, b32, b33, b34, b35, b36, b37, b38, s126, s127, s128, s129, s130, s131, s132, s133, s134, s135, s136, s137, s138, s139, s140, s141, s142, s143, s144, s145, s146, s147, s148, _, _, _, _, s153, s154, s155, s156, s157, s158, s159, s160, s161, s162, s163, s10⟩, rfl, rfl, h0, h1, h2, h3, h4, h5, h6, h7, h8, h9, h10, h11, h12, h13, h14, h15, h16, h17, h18, h19, h20, h21, h22, h23, h24, h25, (fun _ => rfl), h27, h28, h29, h30, h31, h32, h33, h34, h35, h36, h37, h38, gW⟩
    · have hn27 : b27 = false := by revert hp; cases b27 <;> simp
      have e23 : b23 = true := by revert hp; cases b23 <;> simp
      have e26 : b26 = true := by revert hp; cases b26 <;> simp
      clear hp
      obtain rfl := (HI.out.2.2.2.2.2.2.2.2.2.2.2.2.2.2.2.2.2.2.2.2.2.2.2.1) e23
      obtain rfl := (HI.out.2.2.2.2.2.2.2.2.2.2.2.2.2.2.2.2.2.2.2.2.2.2.2.2.2.2.1) e26
      subst hn27
      refine inv_op (o := ⟨some 153, _, _, _, _, _⟩) rfl (fun K' hK' => ?_)
      go_simp
      obtain ⟨h0, h1, h2, h3, h4, h5, h6, h7, h8, h9, h10, h11, h12, h13, h14, h15, h16, h17, h18, h19, h20, h21, h22, h23, h24, h25, h26, h27, h28, h29, h30, h31, h32, h33, h34, h35, h36, h37, h38, gW⟩ := HI.out
      exact hK'.out _ _ ⟨⟨b0, b1, b2, b3, b4, b5, b6, b7, b8, b9, b10, b11, b12, b13, b14, b15, b16, b17, b18, b19, b20, b21, b22, b23, b24, b25, b26, true, b28, b29, b30, b31, b32, b33, b34, b35, b36, b37, b38, s126, s127, s128, s129, s130, s131, s132, s133, s134, s135, s136, s137, s138, s139, s140, s141, s142, s143, s144, s145, s146, s147, s148, _, s150, s151, _, _, s154, s155, s156, s157, s158, s159, s160, s161, s162, s163, s10⟩, rfl, rfl, h0, h1, h2, h3, h4, h5, h6, h7, h8, h9, h10, h11, h12, h13, h14, h15, h16, h17, h18, h19, h20, h21, h22, h23, h24, h25, h26, (fun _ => rfl), h28, h29, h30, h31, h32, h33, h34, h35, h36, h37, h38, gW⟩
    · have hn28 : b28 = false := by revert hp; cases b28 <;> simp
      have e27 : b27 = true := by revert hp; cases b27 <;> simp
      clear hp
      obtain rfl := (HI.out.2.2.2.2.2.2.2.2.2.2.2.2.2.2.2.2.2.2.2.2.2.2.2.2.2.2.2.1) e27
      subst hn28
      refine inv_op (o := ⟨some 154, _, _, _, _, _⟩) rfl (fun K' hK' => ?_)
      go_simp
      obtain ⟨h0, h1, h2, h3, h4, h5, h6, h7, h8, h9, h10, h11, h12, h13, h14, h15, h16, h17, h18, h19, h20, h21, h22, h23, h24, h25, h26, h27, h28, h29, h30, h31, h32, h33, h34, h35, h36, h37, h38, gW⟩ := HI.out
      exact hK'.out _ _ ⟨⟨b0, b1, b2, b3, b4, b5, b6, b7, b8, b9, b10, b11, b12, b13, b14, b15, b16, b17, b18, b19, b20, b21, b22, b23, b24, b25, b26, b27, true, b29, b30, b31, b32, b33, b34, b35, b36, b37, b38, s126, s127, s128, s129, s130, s131, s132, s133, s134, s135, s136, s137, s138, s139, s140, s141, s142, s143, s144, s145, s146, s147, s148, s149, s150, s151, s152, _, _, s155, s156, s157, s158, s159, s160, s161, s162, s163, s10⟩, rfl, rfl, h0, h1, h2, h3, h4, h5, h6, h7, h8, h9, h10, h11, h12, h13, h14, h15, h16, h17, h18, h19, h20, h21, h22, h23, h24, h25, h26, h27, (fun _ => rfl), h29, h30, h31, h32, h33, h34, h35, h36, h37, h38, gW⟩
    · have hn29 : b29 = false := by revert hp; cases b29 <;> simp
      have e28 : b28 = true := by revert hp; cases b28 <;> simp
      clear hp
      obtain rfl := (HI.out.2.2.2.2.2.2.2.2.2.2.2.2.2.2.2.2.2.2.2.2.2.2.2.2.2.2.2.2.1) e28
      subst hn29
      refine inv_op (o := ⟨some 155, _, _, _, _, _⟩) rfl (fun K' hK' => ?_)
      have gW := HI.out.2.2.2.2.2.2.2.2.2.2.2.2.2.2.2.2.2.2.2.2.2.2.2.2.2.2.2.2.2.2.2.2.2.2.2.2.2.2.2
      obtain ⟨hc1, hc2⟩ := one_cell (HM.out W gW)
      go_simp
      obtain ⟨h0, h1, h2, h3, h4, h5, h6, h7, h8, h9, h10, h11, h12, h13, h14, h15, h16, h17, h18, h19, h20, h21, h22, h23, h24, h25, h26, h27, h28, h29, h30, h31, h32, h33, h34, h35, h36, h37, h38, gW⟩ := HI.out
      exact hK'.out _ _ ⟨⟨b0, b1, b2, b3, b4, b5, b6, b7, b8, b9, b10, b11, b12, b13, b14, b15, b16, b17, b18, b19, b20, b21, b22, b23, b24, b25, b26, b27, b28, true, b30, b31, b32, b33, b34, b35, b36, b37, b38, s126, s127, s128, s129, s130, s131, s132, s133, s134, s135, s136, s137, s138, s139, s140, s141, s142, s143, s144, s145, s146, s147, s148, s149, s150, s151, s152, s153, _, _, s156, s157, s158, s159, s160, s161, s162, s163, s10⟩, rfl, rfl, h0, h1, h2, h3, h4, h5, h6, h7, h8, h9, h10, h11, h12, h13, h14, h15, h16, h17, h18, h19, h20, h21, h22, h23, h24, h25, h26, h27, h28, (fun _ => rfl), h30, h31, h32, h33, h34, h35, h36, h37, h38, gW⟩
    · have hn30 : b30 = false := by revert hp; cases b30 <;> simp
      have e28 : b28 = true := by revert hp; cases b28 <;> simp
      have e29 : b29 = true := by revert hp; cases b29 <;> simp
      clear hp
      obtain rfl := (HI.out.2.2.2.2.2.2.2.2.2.2.2.2.2.2.2.2.2.2.2.2.2.2.2.2.2.2.2.2.1) e28
      obtain rfl := (HI.out.2.2.2.2.2.2.2.2.2.2.2.2.2.2.2.2.2.2.2.2.2.2.2.2.2.2.2.2.2.1) e29
      subst hn30
      refine inv_op (o := ⟨some 156, _, _, _, _, _⟩) rfl (fun K' hK' => ?_)
      have gW := HI.out.2.2.2.2.2.2.2.2.2.2.2.2.2.2.2.2.2.2.2.2.2.2.2.2.2.2.2.2.2.2.2.2.2.2.2.2.2.2.2
      go_simp
      refine (HCA.out W gW).mono ?_
      rintro e w1 ⟨rfl, bn⟩
      obtain ⟨h0, h1, h2, h3, h4, h5, h6, h7, h8, h9, h10, h11, h12, h13, h14, h15, h16, h17, h18, h19, h20, h21, h22, h23, h24, h25, h26, h27, h28, h29, h30, h31, h32, h33, h34, h35, h36, h37, h38, gW⟩ := HI.out
      exact hK'.out _ _ ⟨⟨b0, b1, b2, b3, b4, b5, b6, b7, b8, b9, b10, b11, b12, b13, b14, b15, b16, b17, b18, b19, b20, b21, b22, b23, b24, b25, b26, b27, b28, b29, true, b31, b32, b33, b34, b35, b36, b37, b38, s126, s127, s128, s129, s130, s131, s132, s133, s134, s135, s136, s137, s138, s139, s140, s141, s142, s143, s144, s145, s146, s147, s148, s149, s150, s151, s152, s153, _, _, _, s157, s158, s159, s160, s161, s162, s163, s10⟩, rfl, rfl, h0, h1, h2, h3, h4, h5, h6, h7, h8, h9, h10, h11, h12, h13, h14, h15, h16, h17, h18, h19, h20, h21, h22, h23, h24, h25, h26, h27, h28, h29, (fun _ => rfl), h31, h32, h33, h34, h35, h36, h37, h38, (gW.trans (bn.mono gW.size))⟩
    · have hn31 : b31 = false := by revert hp; cases b31 <;> simp
      have e28 : b28 = true := by revert hp; cases b28 <;> simp
      clear hp
      obtain rfl := (HI.out.2.2.2.2.2.2.2.2.2.2.2.2.2.2.2.2.2.2.2.2.2.2.2.2.2.2.2.2.1) e28
      subst hn31
      refine inv_op (o := ⟨some 157, _, _, _, _, _⟩) rfl (fun K' hK' => ?_)
      have gW := HI.out.2.2.2.2.2.2.2.2.2.2.2.2.2.2.2.2.2.2.2.2.2.2.2.2.2.2.2.2.2.2.2.2.2.2.2.2.2.2.2
      obtain ⟨hc1, hc2⟩ := one_cell (HM.out W gW)
      go_simp
      obtain ⟨h0, h1, h2, h3, h4, h5, h6, h7, h8, h9, h10, h11, h12, h13, h14, h15, h16, h17, h18, h19, h20, h21, h22, h23, h24, h25, h26, h27, h28, h29, h30, h31, h32, h33, h34, h35, h36, h37, h38, gW⟩ := HI.out
      exact hK'.out _ _ ⟨⟨b0, b1, b2, b3, b4, b5, b6, b7, b8, b9, b10, b11, b12, b13, b14, b15, b16, b17, b18, b19, b20, b21, b22, b23, b24, b25, b26, b27, b28, b29, b30, true, b32, b33, b34, b35, b36, b37, b38, s126, s127, s128, s129, s130, s131, s132, s133, s134, s135, s136, s137, s138, s139, s140, s141, s142, s143, s144, s145, s146, s147, s148, s149, s150, s151, s152, s153, _, s155, s156, _, s158, s159, s160, s161, s162, s163, s10⟩, rfl, rfl, h0, h1, h2, h3, h4, h5, h6, h7, h8, h9, h10, h11, h12, h13, h14, h15, h16, h17, h18, h19, h20, h21, h22, h23, h24, h25, h26, h27, h28, h29, h30, (fun _ => rfl), h32, h33, h34, h35, h36, h37, h38, gW⟩
    · have hn32 : b32 = false := by revert hp; cases b32 <;> simp
      have e28 : b28 = true := by revert hp; cases b28 <;> simp
      have e31 : b31 = true := by revert hp; cases b31 <;> simp
      clear hp
      obtain rfl := (HI.out.2.2.2.2.2.2.2.2.2.2.2.2.2.2.2.2.2.2.2.2.2.2.2.2.2.2.2.2.1) e28
      obtain rfl := (HI.out.2.2.2.2.2.2.2.2.2.2.2.2.2.2.2.2.2.2.2.2.2.2.2.2.2.2.2.2.2.2.2.1) e31
      subst hn32
      refine inv_op (o := ⟨some 158, _, _, _, _, _⟩) rfl (fun K' hK' => ?_)
      have gW := HI.out.2.2.2.2.2.2.2.2.2.2.2.2.2.2.2.2.2.2.2.2.2.2.2.2.2.2.2.2.2.2.2.2.2.2.2.2.2.2.2
      go_simp
      refine (HCB.out W gW).mono ?_
      rintro e w1 ⟨rfl, bn⟩
      obtain ⟨h0, h1, h2, h3, h4, h5, h6, h7, h8, h9, h10, h11, h12, h13, h14, h15, h16, h17, h18, h19, h20, h21, h22, h23, h24, h25, h26, h27, h28, h29, h30, h31, h32, h33, h34, h35, h36, h37, h38, gW⟩ := HI.out
      exact hK'.out _ _ ⟨⟨b0, b1, b2, b3, b4, b5, b6, b7, b8, b9, b10, b11, b12, b13, b14, b15, b16, b17, b18, b19, b20, b21, b22, b23, b24, b25, b26, b27, b28, b29, b30, b31, true, b33, b34, b35, b36, b37, b38, s126, s127, s128, s129, s130, s131, s132, s133, s134, s135, s136, s137, s138, s139, s140, s141, s142, s143, s144, s145, s146, s147, s148, s149, s150, s151, s152, s153, _, s155, s156, _, _, s159, s160, s161, s162, s163, s10⟩, rfl, rfl, h0, h1, h2, h3, h4, h5, h6, h7, h8, h9, h10, h11, h12, h13, h14, h15, h16, h17, h18, h19, h20, h21, h22, h23, h24, h25, h26, h27, h28, h29, h30, h31, (fun _ => rfl), h33, h34, h35, h36, h37, h38, (gW.trans (bn.mono gW.size))⟩
    · have hn33 : b33 = false := by revert hp; cases b33 <;> simp
      have e28 : b28 = true := by revert hp; cases b28 <;> simp
      have e30 : b30 = true := by revert hp; cases b30 <;> simp
      have e32 : b32 = true := by revert hp; cases b32 <;> simp
      clear hp
      obtain rfl := (HI.out.2.2.2.2.2.2.2.2.2.2.2.2.2.2.2.2.2.2.2.2.2.2.2.2.2.2.2.2.1) e28
      obtain rfl := (HI.out.2.2.2.2.2.2.2.2.2.2.2.2.2.2.2.2.2.2.2.2.2.2.2.2.2.2.2.2.2.2.1) e30
      obtain rfl := (HI.out.2.2.2.2.2.2.2.2.2.2.2.2.2.2.2.2.2.2.2.2.2.2.2.2.2.2.2.2.2.2.2.2.1) e32
      subst hn33
      refine inv_op (o := ⟨some 159, _, _, _, _, _⟩) rfl (fun K' hK' => ?_)
      go_simp
      obtain ⟨h0, h1, h2, h3, h4, h5, h6, h7, h8, h9, h10, h11, h12, h13, h14, h15, h16, h17, h18, h19, h20, h21, h22, h23, h24, h25, h26, h27, h28, h29, h30, h31, h32, h33, h34, h35, h36, h37, h38, gW⟩ := HI.out
      exact hK'.out _ _ ⟨⟨b0, b1, b2, b3, b4, b5, b6, b7, b8, b9, b10, b11, b12, b13, b14, b15, b16, b17, b18, b19, b20, b21, b22, b23, b24, b25, b26, b27, b28, b29, b30, b31, b32, true, b34, b35, b36, b37, b38, s126, s127, s128, s129, s130, s131, s132, s133, s134, s135, s136, s137, s138, s139, s140, s141, s142, s143, s144, s145, s146, s147, s148, s149, s150, s151, s152, s153, _, s155, _, s157, _, _, s160, s161, s162, s163, s10⟩, rfl, rfl, h0, h1, h2, h3, h4, h5, h6, h7, h8, h9, h10, h11, h12, h13, h14, h15, h16, h17, h18, h19, h20, h21, h22, h23, h24, h25, h26, h27, h28, h29, h30, h31, h32, (fun _ => rfl), h34, h35, h36, h37, h38, gW⟩
    · have hn34 : b34 = false := by revert hp; cases b34 <;> simp
      have e28 : b28 = true := by revert hp; cases b28 <;> simp
      have e33 : b33 = true := by revert hp; cases b33 <;> simp
      clear hp
      obtain rfl := (HI.out.2.2.2.2.2.2.2.2.2.2.2.2.2.2.2.2.2.2.2.2.2.2.2.2.2.2.2.2.1) e28
      obtain rfl := (HI.out.2.2.2.2.2.2.2.2.2.2.2.2.2.2.2.2.2.2.2.2.2.2.2.2.2.2.2.2.2.2.2.2.2.1) e33
      subst hn34
      refine inv_op (o := ⟨some 160, _, _, _, _, _⟩) rfl (fun K' hK' => ?_)
      go_simp
      obtain ⟨h0, h1, h2, h3, h4, h5, h6, h7, h8, h9, h10, h11, h12, h13, h14, h15, h16, h17, h18, h19, h20, h21, h22, h23, h24, h25, h26, h27, h28, h29, h30, h31, h32, h33, h34, h35, h36, h37, h38, gW⟩ := HI.out
      exact hK'.out _ _ ⟨⟨b0, b1, b2, b3, b4, b5, b6, b7, b8, b9, b10, b11, b12, b13, b14, b15, b16, b17, b18, b19, b20, b21, b22, b23, b24, b25, b26, b27, b28, b29, b30, b31, b32, b33, true, b35, b36, b37, b38, s126, s127, s128, s129, s130, s131, s132, s133, s134, s135, s136, s137, s138, s139, s140, s141, s142, s143, s144, s145, s146, s147, s148, s149, s150, s151, s152, s153, _, s155, s156, s157, s158, _, _, s161, s162, s163, s10⟩, rfl, rfl, h0, h1, h2, h3, h4, h5, h6, h7, h8, h9, h10, h11, h12, h13, h14, h15, h16, h17, h18, h19, h20, h21, h22, h23, h24, h25, h26, h27, h28, h29, h30, h31, h32, h33, (fun _ => rfl), h35, h36, h37, h38, gW⟩
    · have hn35 : b35 = false := by revert hp; cases b35 <;> simp
      have e34 : b34 = true := by revert hp; cases b34 <;> simp
      clear hp
      obtain rfl := (HI.out.2.2.2.2.2.2.2.2.2.2.2.2.2.2.2.2.2.2.2.2.2.2.2.2.2.2.2.2.2.2.2.2.2.2.1) e34
      subst hn35
      refine inv_op (o := ⟨some 161, _, _, _, _, _⟩) rfl (fun K' hK' => ?_)
      go_simp
      obtain ⟨h0, h1, h2, h3, h4, h5, h6, h7, h8, h9, h10, h11, h12, h13, h14, h15, h16, h17, h18, h19, h20, h21, h22, h23, h24, h25, h26, h27, h28, h29, h30, h31, h32, h33, h34, h35, h36, h37, h38, gW⟩ := HI.out
      exact hK'.out _ _ ⟨⟨b0, b1, b2, b3, b4, b5, b6, b7, b8, b9, b10, b11, b12, b13, b14, b15, b16, b17, b18, b19, b20, b21, b22, b23, b24, b25, b26, b27, b28, b29, b30, b31, b32, b33, b34, true, b36, b37, b38, s126, s127, s128, s129, s130, s131, s132, s133, s134, s135, s136, s137, s138, s139, s140, s141, s142, s143, s144, s145, s146, s147, s148, s149, s150, s151, s152, s153, s154, s155, s156, s157, s158, s159, _, _, s162, s163, s10⟩, rfl, rfl, h0, h1, h2, h3, h4, h5, h6, h7, h8, h9, h10, h11, h12, h13, h14, h15, h16, h17, h18, h19, h20, h21, h22, h23, h24, h25, h26, h27, h28, h29, h30, h31, h32, h33, h34, (fun _ => rfl), h36, h37, h38, gW⟩
    · have hn36 : b36 = false := by revert hp; cases b36 <;> simp
      have e35 : b35 = true := by revert hp; cases b35 <;> simp
      clear hp
      obtain rfl := (HI.out.2.2.2.2.2.2.2.2.2.2.2.2.2.2.2.2.2.2.2.2.2.2.2.2.2.2.2.2.2.2.2.2.2.2.2.1) e35
      subst hn36
      refine inv_op (o := ⟨some 162, _, _, _, _, _⟩) rfl (fun K' hK' => ?_)
      have gW := HI.out.2.2.2.2.2.2.2.2.2.2.2.2.2.2.2.2.2.2.2.2.2.2.2.2.2.2.2.2.2.2.2.2.2.2.2.2.2.2.2
      go_simp
      refine (HHD.out W gW).mono ?_
      rintro e w1 ⟨rfl, bn⟩
      obtain ⟨h0, h1, h2, h3, h4, h5, h6, h7, h8, h9, h10, h11, h12, h13, h14, h15, h16, h17, h18, h19, h20, h21, h22, h23, h24, h25, h26, h27, h28, h29, h30, h31, h32, h33, h34, h35, h36, h37, h38, gW⟩ := HI.out
      exact hK'.out _ _ ⟨⟨b0, b1, b2, b3, b4, b5, b6, b7, b8, b9, b10, b11, b12, b13, b14, b15, b16, b17, b18, b19, b20, b21, b22, b23, b24, b25, b26, b27, b28, b29, b30, b31, b32, b33, b34, b35, true, b37, b38, s126, s127, s128, s129, s130, s131, s132, s133, s134, s135, s136, s137, s138, s139, s140, s141, s142, s143, s144, s145, s146, s147, s148, s149, s150, s151, s152, s153, s154, s155, s156, s157, s158, s159, s160, _, _, s163, s10⟩, rfl, rfl, h0, h1, h2, h3, h4, h5, h6, h7, h8, h9, h10, h11, h12, h13, h14, h15, h16, h17, h18, h19, h20, h21, h22, h23, h24, h25, h26, h27, h28, h29, h30, h31, h32, h33, h34, h35, (fun _ => rfl), h37, h38, (gW.trans (bn.mono gW.size))⟩
    · have hn37 : b37 = false := by revert hp; cases b37 <;> simp
      have e35 : b35 = true := by revert hp; cases b35 <;> simp
      have e36 : b36 = true := by revert hp; cases b36 <;> simp
      clear hp
      obtain rfl := (HI.out.2.2.2.2.2.2.2.2.2.2.2.2.2.2.2.2.2.2.2.2.2.2.2.2.2.2.2.2.2.2.2.2.2.2.2.1) e35
      obtain rfl := (HI.out.2.2.2.2.2.2.2.2.2.2.2.2.2.2.2.2.2.2.2.2.2.2.2.2.2.2.2.2.2.2.2.2.2.2.2.2.1) e36
      subst hn37
      refine inv_op (o := ⟨some 163, _, _, _, _, _⟩) rfl (fun K' hK' => ?_)
      go_simp
      obtain ⟨h0, h1, h2, h3, h4, h5, h6, h7, h8, h9, h10, h11, h12, h13, h14, h15, h16, h17, h18, h19, h20, h21, h22, h23, h24, h25, h26, h27, h28, h29, h30, h31, h32, h33, h34, h35, h36, h37, h38, gW⟩ := HI.out
      exact hK'.out _ _ ⟨⟨b0, b1, b2, b3, b4, b5, b6, b7, b8, b9, b10, b11, b12, b13, b14, b15, b16, b17, b18, b19, b20, b21, b22, b23, b24, b25, b26, b27, b28, b29, b30, b31, b32, b33, b34, b35, b36, true, b38, s126, s127, s128, s129, s130, s131, s132, s133, s134, s135, s136, s137, s138, s139, s140, s141, s142, s143, s144, s145, s146, s147, s148, s149, s150, s151, s152, s153, s154, s155, s156, s157, s158, s159, s160, _, _, _, s10⟩, rfl, rfl, h0, h1, h2, h3, h4, h5, h6, h7, h8, h9, h10, h11, h12, h13, h14, h15, h16, h17, h18, h19, h20, h21, h22, h23, h24, h25, h26, h27, h28, h29, h30, h31, h32, h33, h34, h35, h36, (fun _ => rfl), h38, gW⟩
    · have hn38 : b38 = false := by revert hp; cases b38 <;> simp
      have e37 : b37 = true := by revert hp; cases b37 <;> simp
      clear hp
      obtain rfl := (HI.out.2.2.2.2.2.2.2.2.2.2.2.2.2.2.2.2.2.2.2.2.2.2.2.2.2.2.2.2.2.2.2.2.2.2.2.2.2.1) e37
      subst hn38
      refine inv_op (o := ⟨some 10, _, _, _, _, _⟩) rfl (fun K' hK' => ?_)
      go_simp
      obtain ⟨h0, h1, h2, h3, h4, h5, h6, h7, h8, h9, h10, h11, h12, h13, h14, h15, h16, h17, h18, h19, h20, h21, h22, h23, h24, h25, h26, h27, h28, h29, h30, h31, h32, h33, h34, h35, h36, h37, h38, gW⟩ := HI.out
      exact hK'.out _ _ ⟨⟨b0, b1, b2, b3, b4, b5, b6, b7, b8, b9, b10, b11, b12, b13, b14, b15, b16, b17, b18, b19, b20, b21, b22, b23, b24, b25, b26, b27, b28, b29, b30, b31, b32, b33, b34, b35, b36, b37, true, s126, s127, s128, s129, s130, s131, s132, s133, s134, s135, s136, s137, s138, s139, s140, s141, s142, s143, s144, s145, s146, s147, s148, s149, s150, s151, s152, s153, s154, s155, s156, s157, s158, s159, s160, s161, s162, _, _⟩, rfl, rfl, h0, h1, h2, h3, h4, h5, h6, h7, h8, h9, h10, h11, h12, h13, h14, h15, h16, h17, h18, h19, h20, h21, h22, h23, h24, h25, h26, h27, h28, h29, h30, h31, h32, h33, h34, h35, h36, h37, (fun _ => rfl), gW⟩
  case hdone =>
    rintro ⟨b0, b1, b2, b3, b4, b5, b6, b7, b8, b9, b10, b11, b12, b13, b14, b15, b16, b17, b18, b19, b20, b21, b22, b23, b24, b25, b26, b27, b28, b29, b30, b31, b32, b33, b34, b35, b36, b37, b38, s126, s127, s128, s129, s130, s131, s132, s133, s134, s135, s136, s137, s138, s139, s140, s141, s142, s143, s144, s145, s146, s147, s148, s149, s150, s151, s152, s153, s154, s155, s156, s157, s158, s159, s160, s161, s162, s163, s10⟩ W hI hall
    dsimp only at hI hall ⊢
    have HI := Lib.hid hI
    clear hI
    obtain rfl : b38 = true := hall 38 (by decide)
    obtain rfl := (HI.out.2.2.2.2.2.2.2.2.2.2.2.2.2.2.2.2.2.2.2.2.2.2.2.2.2.2.2.2.2.2.2.2.2.2.2.2.2.2.1) rfl
    have gW := HI.out.2.2.2.2.2.2.2.2.2.2.2.2.2.2.2.2.2.2.2.2.2.2.2.2.2.2.2.2.2.2.2.2.2.2.2.2.2.2.2
    clear HI hall
    have HBe := Lib.hid (BZ.out.trans (gW.mono BZ.out.size))
    clear gW
    go_wp2
    go_ret
    exact ⟨rfl, HBe.out⟩

theorem memTells_law (w : World) (v : Value) (l : List UInt8) (hv : IsArg w v l) (x : Int) (_ : -9223372036854775808 ≤ x ∧ x ≤ 9223372036854775807) (y : Int) (hy : -9223372036854775808 ≤ y ∧ y ≤ 9223372036854775807) (u : Value) (m : List UInt8) (hu : IsArg w u m) (k : Nat) (hk : k < 18446744073709551616) :
    Calls Try.prog 4 #[.agg #[v], .int .i64 x, .int .i64 y, u, .int .u64 k] w fun e w' => e = .returned (.bool true) ∧ Below w.heap.size w w' := by
  by_cases h : 3000 < l.length ∨ 500 < m.length ∨ 20000 < y
  · exact memTells_out w v l hv x y u m hu k h
  · exact memTells_in w v l hv (by omega) x y hy u m hu (by omega) k hk (by omega)
end Go.Proofs.Ytiapamfbjjclbaa
