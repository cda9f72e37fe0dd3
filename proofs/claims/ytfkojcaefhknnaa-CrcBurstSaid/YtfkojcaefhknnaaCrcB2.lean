/- The law CrcBurst returns true for every input. -/
import Derived.Test.YtfkojcaefhknnaaCrcP
namespace Go.Proofs.Ytfkojcaefhknnaa
open Go.RowKit Go.Lib

/-- A block of the call's own whose first cells are these bytes. -/
def RowIs (w : World) (g : Nat) (t : List UInt8) : Prop := ∃ cur, w.heap[g]? = some (.cells cur 5 (0, 0)) ∧ cur.toList.take t.length = byteCells t
theorem RowIs.at {w : World} {g : Nat} {t : List UInt8} (h : RowIs w g t) (i : Nat) (hi : i < t.length) : w.cell? ⟨g, i, none⟩ = some (.int .u8 (t.getD i 0).toNat) := by
  obtain ⟨cur, hg, htk⟩ := h
  have h1 : (cur.toList.take t.length)[i]? = some (.int .u8 (t.getD i 0).toNat) := by rw [htk]; simp [byteCells, hi]
  rw [List.getElem?_take, if_pos hi] at h1
  unfold World.cell?
  rw [hg]
  simpa using h1
theorem RowIs.free {w : World} {g : Nat} {t : List UInt8} (h : RowIs w g t) (i : Nat) : w.frozen? ⟨g, i, none⟩ = false := by
  obtain ⟨cur, hg, _⟩ := h
  simp [World.frozen?, hg]
theorem RowIs.lt {w : World} {g : Nat} {t : List UInt8} (h : RowIs w g t) : g < w.heap.size := by
  obtain ⟨cur, hg, _⟩ := h
  exact (Array.getElem?_eq_some_iff.1 hg).1
theorem RowIs.put {w : World} {g : Nat} {t : List UInt8} (h : RowIs w g t) (q : Nat) (y : UInt8) : RowIs (w.setCell ⟨g, q, none⟩ (.int .u8 y.toNat)) g (t.set q y) := by
  obtain ⟨cur, hg, htk⟩ := h
  refine ⟨cur.setIfInBounds q (.int .u8 y.toNat), by simp [World.setCell, Array.getElem?_modify, hg], ?_⟩
  rw [List.length_set, Array.toList_setIfInBounds, List.take_set, htk]
  simp [byteCells, List.map_set]
theorem RowIs.bytes {w : World} {g : Nat} {t : List UInt8} (h : RowIs w g t) (M cap : Nat) (hM : t.length = M) (hc : M ≤ cap) (hm : cap ≤ maxLen) : IsBytes w (.slice (some ⟨g, 0, none⟩) M cap) t := by
  subst hM
  exact .inr ⟨g, 0, cap, rfl, hc, hm, h.lt, fun i hi => by rw [Nat.zero_add]; exact h.at i hi⟩
theorem isArg_of_owns {w : World} {base : Nat} {t : TypeId} {v : Value} {l : List UInt8} (h : w.ownsRow base t 1 v l.length (byteCells l)) : IsArg w v l := by
  refine ⟨isBytes_of_owns h, ?_⟩
  rcases h.2 with ⟨rfl, h0⟩ | ⟨g, cap, cur, rfl, _⟩
  · exact .inl ⟨rfl, List.length_eq_zero_iff.1 h0⟩
  · exact .inr ⟨⟨g, 0, none⟩, cap, rfl, fun j u hu => World.ownsRow.cells h rfl j u hu⟩

/-- What holds of the bytes when j of the bits were gone through. -/
def BurstInv (M F bits j : Nat) (S t : List UInt8) : Prop := t.length = M ∧ R crcOnes t = R crcOnes S ^^^ turnedBy (8 * M) F bits j ∧ (bits = 0 → t = S)
theorem burst_zero {M F bits : Nat} {S : List UInt8} (h : S.length = M) : BurstInv M F bits 0 S S := ⟨h, by rw [turnedBy_zero, Nat.xor_zero], fun _ => rfl⟩
theorem burst_off {M F bits j : Nat} {S t : List UInt8} (h : BurstInv M F bits j S t) (h0 : bits / 2 ^ j % 2 = 0) : BurstInv M F bits (j + 1) S t := ⟨h.1, by rw [turnedBy_off _ _ _ _ h0]; exact h.2.1, h.2.2⟩
theorem burst_on {M F bits j I : Nat} {S t : List UInt8} (h : BurstInv M F bits j S t) (h1 : bits / 2 ^ j % 2 = 1) (hI : I = F + j) (hM : I < 8 * M) (x y : UInt8) (hx : x = t[I / 8]?.getD 0) (hy : y.toNat = x.toNat ^^^ 2 ^ (I % 8)) : BurstInv M F bits (j + 1) S (t.set (I / 8) y) := by
  refine ⟨by rw [List.length_set]; exact h.1, ?_, fun h0 => by subst h0; simp at h1⟩
  rw [R_bit crcOnes t (I / 8) (I % 8) (by rw [h.1]; omega) (by omega) y (by rw [hy, hx]), h.2.1, turnedBy_on _ _ _ _ h1 (by omega), h.1, ← Nat.xor_assoc]
  congr 2
  omega

theorem burst_end {M F bits : Nat} {S t : List UInt8} (h : BurstInv M F bits 32 S t) (hM : S.length = M) (hS : crcHolds S = true) (hb : bits < 4294967296) : crcHolds t = decide (bits = 0) := by
  by_cases h0 : bits = 0
  · rw [h.2.2 h0, hS, decide_eq_true h0]
  · rw [decide_eq_false h0]
    exact burst S t F bits hb hS (by rw [hM]; exact h.2.1) h0
theorem xor_bit (x y : UInt8) (I : Nat) (h : y = x ^^^ UInt8.ofNat (2 ^ (I % 8))) : y.toNat = x.toNat ^^^ 2 ^ (I % 8) ∧ bits BinOp.xor IntKind.u8 ((x.toNat : Nat) : Int) (2 ^ (I % 8) % 256) = ((y.toNat : Nat) : Int) := by
  have h7 : 2 ^ (I % 8) ≤ 2 ^ 7 := Nat.pow_le_pow_right (by decide) (by omega)
  have e7 : (2 : Nat) ^ 7 = 128 := rfl
  have e1 : (UInt8.ofNat (2 ^ (I % 8))).toNat = 2 ^ (I % 8) := by
    rw [UInt8.toNat_ofNat']
    exact Nat.mod_eq_of_lt (Nat.lt_of_le_of_lt h7 (by decide))
  have e2 : y.toNat = x.toNat ^^^ 2 ^ (I % 8) := by rw [h, UInt8.toNat_xor, e1]
  have e3 : ((2 : Int) ^ (I % 8) % 256) = ((2 ^ (I % 8) : Nat) : Int) := by
    have e4 : ((2 : Int) ^ (I % 8)) = ((2 ^ (I % 8) : Nat) : Int) := by rw [Int.natCast_pow]; rfl
    rw [e4]
    have h9 : ∀ Q : Nat, Q ≤ 128 → ((Q : Int) % 256) = (Q : Int) := fun Q hQ => by omega
    exact h9 _ (by omega)
  refine ⟨e2, ?_⟩
  rw [e3, u8_xor_nat _ _ x.toNat_lt (Nat.lt_of_le_of_lt h7 (by decide)), e2]
theorem half_step (bits j p : Nat) (h : p = bits / 2 ^ j) : Value.int .u32 ((p : Int) / 2) = Value.int .u32 ((bits / 2 ^ (j + 1) : Nat) : Int) := by
  rw [Nat.pow_succ, ← Nat.div_div_eq_div_mul, ← h, Int.natCast_ediv]
  rfl

theorem crcBurst_out (w : World) (v : Value) (l : List UInt8) (hv : IsArg w v l) (z : Int) (hz : -9223372036854775808 ≤ z ∧ z ≤ 9223372036854775807) (bits : Nat) (h : 2000 < l.length ∨ z < 0) :
    Calls Try.prog 6 #[v, .int .i64 z, .int .u32 bits] w fun e w' => e = .returned (.bool true) ∧ Below w.heap.size w w' := by
  obtain ⟨a, c, rfl⟩ := hv.1.shape
  clear hv
  by_cases h1 : 2000 < l.length
  · clear h
    go_enter Try.func6, Try.ntmps6
    go_wp2_with (go_at_call 7; refine (heads_any _).mono ?_; rintro e w' ⟨rfl, hb⟩)
    go_ret
    exact ⟨rfl, hb⟩
  · have h2 : z < 0 := by omega
    clear h
    go_enter Try.func6, Try.ntmps6
    go_wp2_with (go_at_call 7; refine (heads_any _).mono ?_; rintro e w' ⟨rfl, hb⟩)
    go_ret
    exact ⟨rfl, hb⟩

set_option maxHeartbeats 4000000 in
theorem crcBurst_in (w : World) (v : Value) (l : List UInt8) (hv : IsArg w v l) (A : Nat) (hA : A ≤ 9223372036854775807) (bits : Nat) (hbits : bits < 4294967296) (hl : l.length ≤ 2000) :
    Calls Try.prog 6 #[v, .int .i64 A, .int .u32 bits] w fun e w' => e = .returned (.bool true) ∧ Below w.heap.size w w' := by
  obtain ⟨i0, hi, hz0, hz1, hz2⟩ := info_parts info8
  have hown0 : (w.alloc (.cells #[] 5)).ownsRow w.heap.size 5 1 (.slice (some ⟨w.heap.size, 0, none⟩) 0 0) 0 [] :=
    World.ownsRow_made w #[] 0 (Nat.le_refl _) (by decide) rfl
  have hb0 : Below w.heap.size w (w.alloc (.cells #[] 5)) := (Below.refl _ _).alloc (Nat.le_refl _) _
  have hcl := closed_any v l (w.alloc (.cells #[] 5)) (hv.below hb0) (by omega)
  obtain ⟨a, c, rfl⟩ := hv.1.shape
  obtain ⟨N, hN⟩ : ∃ N, N = l.length := ⟨_, rfl⟩
  obtain ⟨S, hS⟩ : ∃ S, S = crcClosed l := ⟨_, rfl⟩
  have hSl : S.length = N + 4 := by rw [hS, closed_length, hN]
  have hSh : crcHolds S = true := by rw [hS]; exact holds_closed l
  rw [← hS, ← hN] at hcl
  rw [← hN] at hl
  rw [← hN]
  have HCL := Lib.hid hcl
  have HSL := Lib.hid hSl
  have HSH := Lib.hid hSh
  clear hv hN hS hcl hSl hSh
  go_enter Try.func6, Try.ntmps6
  go_wp2_with fail
  refine HCL.out.mono ?_
  rintro e w1 ⟨u, rfl, ho, hb⟩
  rw [← HSL.out] at ho
  have hargs := isArg_of_owns ho
  have hown1 := ownsRow_below hown0 hb
  have hB1 := hb0.trans (hb.mono hb0.size)
  have hsz1 := hB1.size
  have HAR := Lib.hid hargs
  have HB1 := Lib.hid hB1
  clear hargs ho hb hB1 hown0 hb0
  have hSle : S.length ≤ 2004 := by rw [HSL.out]; omega
  go_wp2_with (at_builtin; refine wpList_append_isArg _ rfl (.tmp 19) (.tmp 21) 22 rfl w.heap.size 5 i0 (.int .u8 0) Try.underlying22 hi hz0 hz1 hz2 rfl _ _ _ rfl hown1 _ S rfl HAR.out.2 (by omega) hsz1 ?_)
  intro v2 w2 hown2 hgrow2
  have hB2 := HB1.out.grown hgrow2 hsz1 (fun k hk => (hown1.lt k hk).1)
  obtain ⟨g, cap, rfl, hcap, hcapm, hbg, hrow⟩ : ∃ g cap, v2 = .slice (some ⟨g, 0, none⟩) S.length cap ∧ S.length ≤ cap ∧ cap ≤ maxLen ∧ w.heap.size ≤ g ∧ RowIs w2 g S := by
    rcases hown2.2 with ⟨_, h0⟩ | ⟨g, cap, cur, hv2, hbg, hh, hn, hm, _, htk⟩
    · rw [HSL.out] at h0; omega
    · exact ⟨g, cap, hv2, hn, hm, hbg, cur, hh, by simpa using htk⟩
  obtain ⟨M, hM⟩ : ∃ M, M = S.length := ⟨_, rfl⟩
  have hMN : M = N + 4 := by rw [hM, HSL.out]
  rw [← hM] at hcap
  rw [← hM]
  obtain ⟨D, hD⟩ : ∃ D, D = 8 * M - 31 := ⟨_, rfl⟩
  obtain ⟨F, hF⟩ : ∃ F, F = A % D := ⟨_, rfl⟩
  have hFD : F < D := by rw [hF]; exact Nat.mod_lt _ (by omega)
  have hDi : 8 * (M : Int) - 31 = (D : Int) := by omega
  have hFi : (A : Int) % (8 * (M : Int) - 31) = (F : Int) := by rw [hDi, hF, Int.natCast_emod]
  have hDz : ((8 * (M : Int) - 31) == 0) = false := by rw [beq_eq_false_iff_ne]; omega
  have hneq : ((M : Int) != (N : Int) + 4) = false := by
    have : ((M : Int) == (N : Int) + 4) = true := by rw [beq_iff_eq]; omega
    rw [bne, this]; rfl
  have hM1 : 4 ≤ M := by omega
  have hM2 : M ≤ 2004 := by omega
  have hF32 : F + 32 ≤ 8 * M := by omega
  have HB2 := Lib.hid hB2
  have HM := Lib.hid hM
  have HR := Lib.hid hrow
  have HCM := Lib.hid hcapm
  clear hB2 hM hrow hcapm hown2 hgrow2 hown1 HAR HB1 hMN hD hF hDi hSle HCL
  go_wp2_with fail
  rw [hFi]
  clear hFi hDz hneq hFD
  go_loopw [9, 10] (fun r i wr => ∃ (j I : Nat) (t : List UInt8), I = F + j ∧ j ≤ 32 ∧ i = .int .i64 I ∧ r = .int .u32 ((bits / 2 ^ j : Nat) : Int) ∧ RowIs wr g t ∧ BurstInv M F bits j S t ∧ Below w.heap.size w wr) (fun _ i _ => F + 32 - (intOf i).toNat)
  case atStart => exact ⟨0, F, S, rfl, by omega, rfl, by rw [Nat.pow_zero, Nat.div_one], HR.out, burst_zero HM.out.symm, HB2.out⟩
  case round =>
    obtain ⟨j, I, t, hIj, hj, rfl, rfl, hrow, hinv, hbw⟩ := hrel
    obtain ⟨p, hp⟩ : ∃ p, p = bits / 2 ^ j := ⟨_, rfl⟩
    rw [← hp]
    have hpl : p < 4294967296 := by rw [hp]; exact Nat.lt_of_le_of_lt (Nat.div_le_self _ _) hbits
    by_cases hlt : j < 32
    · have hI : I < F + 32 := by omega
      have hq : I / 8 < t.length := by rw [hinv.1]; omega
      by_cases hodd : p % 2 = 1
      · obtain ⟨x, hx⟩ : ∃ x, x = t[I / 8]?.getD 0 := ⟨_, rfl⟩
        obtain ⟨y, hy⟩ : ∃ y : UInt8, y = x ^^^ UInt8.ofNat (2 ^ (I % 8)) := ⟨_, rfl⟩
        have hcell : wr.cell? ⟨g, I / 8, none⟩ = some (.int .u8 x.toNat) := by rw [hrow.at _ hq, hx]; simp
        have hfz : wr.frozen? ⟨g, I / 8, none⟩ = false := hrow.free _
        have hqM : I / 8 < M := by rw [← hinv.1]; exact hq
        have hp1 : ((p : Int) % 2 == 1) = true := by rw [beq_iff_eq]; omega
        have HON := Lib.hid (show bits / 2 ^ j % 2 = 1 by rw [← hp]; exact hodd)
        have HINV := Lib.hid hinv
        have HROW := Lib.hid hrow
        have HX := Lib.hid hx
        have HY := Lib.hid hy
        have HIJ := Lib.hid hIj
        have HP := Lib.hid hp
        clear hinv hrow hx hy hIj hp hodd hq
        go_wp2
        go_roundw
        case rel =>
          refine ⟨j + 1, I + 1, t.set (I / 8) y, by have := HIJ.out; omega, by omega, by go_num, half_step bits j p HP.out, ?_, burst_on HINV.out HON.out HIJ.out (by have := HIJ.out; omega) x y HX.out (xor_bit x y I HY.out).1, hbw.setCell hbg _⟩
          rw [(xor_bit x y I HY.out).2]
          exact HROW.out.put _ _
        case measure => simp [intOf]; omega
      · have hp1 : ((p : Int) % 2 == 1) = false := by rw [beq_eq_false_iff_ne]; omega
        have hp0 : bits / 2 ^ j % 2 = 0 := by rw [← hp]; omega
        have HINV := Lib.hid (burst_off hinv hp0)
        have HROW := Lib.hid hrow
        have HIJ := Lib.hid hIj
        have HP := Lib.hid hp
        clear hinv hrow hIj hp hodd hq hp0
        go_wp2
        go_roundw
        case rel => exact ⟨j + 1, I + 1, t, by have := HIJ.out; omega, by omega, by go_num, half_step bits j p HP.out, HROW.out, HINV.out, hbw⟩
        case measure => simp [intOf]; omega
    · obtain rfl : j = 32 := by omega
      have hge : ¬ (I < F + 32) := by omega
      have hh := holds_any (.slice (some ⟨g, 0, none⟩) M cap) t wr (hrow.bytes M cap hinv.1 hcap HCM.out)
      have hres := burst_end hinv HM.out.symm HSH.out hbits
      rw [hres] at hh
      have HH := Lib.hid hh
      have HBW := Lib.hid hbw
      clear hinv hrow hIj hp hh hres hbw hpl
      by_cases hb0 : bits = 0
      · subst hb0
        go_wp2_with fail
        refine HH.out.mono ?_
        rintro e w3 ⟨rfl, hb⟩
        have HB3 := Lib.hid (HBW.out.trans (hb.mono HBW.out.size))
        clear hb
        go_wp2_with fail
        refine (heads_any _).mono ?_
        rintro e w4 ⟨rfl, hb⟩
        go_wp2
        go_ret
        exact ⟨rfl, HB3.out.trans (hb.mono HB3.out.size)⟩
      · rw [decide_eq_false hb0] at HH
        have hbz : ((bits : Int) == 0) = false := by rw [beq_eq_false_iff_ne]; omega
        clear hb0
        go_wp2_with fail
        refine HH.out.mono ?_
        rintro e w3 ⟨rfl, hb⟩
        have HB3 := Lib.hid (HBW.out.trans (hb.mono HBW.out.size))
        clear hb
        go_wp2_with fail
        refine (heads_any _).mono ?_
        rintro e w4 ⟨rfl, hb⟩
        go_wp2
        go_ret
        exact ⟨rfl, HB3.out.trans (hb.mono HB3.out.size)⟩

theorem crcBurst_law (w : World) (v : Value) (l : List UInt8) (hv : IsArg w v l) (z : Int) (hz : -9223372036854775808 ≤ z ∧ z ≤ 9223372036854775807) (bits : Nat) (hb : bits < 4294967296) :
    Calls Try.prog 6 #[v, .int .i64 z, .int .u32 bits] w fun e w' => e = .returned (.bool true) ∧ Below w.heap.size w w' := by
  by_cases h : 2000 < l.length ∨ z < 0
  · exact crcBurst_out w v l hv z hz bits h
  · obtain ⟨A, rfl⟩ := Int.eq_ofNat_of_zero_le (show 0 ≤ z by omega)
    exact crcBurst_in w v l hv A (by omega) bits hb (by omega)
end Go.Proofs.Ytfkojcaefhknnaa
