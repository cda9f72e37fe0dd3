/- The laws CrcHolds and CrcSums return true for every input. -/
import Derived.Test.YtfkojcaefhknnaaCrcH
namespace Go.Proofs.Ytfkojcaefhknnaa
open Go.RowKit Go.Lib

/-- What stands ahead of a place, of bytes that are read. -/
theorem IsBytes.front {w : World} {a : Option Addr} {l : List UInt8} {N c : Nat} (h : IsBytes w (.slice a N c) l) (n : Nat) (hn : n ≤ l.length) : IsBytes w (.slice a n c) (l.take n) := by
  rcases h with ⟨a0, c0, h1, h2⟩ | ⟨b, off, cap, h1, h2, h3, h4, h5⟩
  · subst h2
    have : n = 0 := by simpa using hn
    subst this
    exact .inl ⟨_, _, rfl, by simp⟩
  · cases h1
    have hl : (l.take n).length = n := by simp; omega
    refine .inr ⟨b, off, c, by rw [hl], by omega, h3, h4, fun i hi => ?_⟩
    rw [hl] at hi
    rw [h5 i (by omega)]
    simp [hi]
/-- .. of bytes that came in. -/
theorem IsArg.ahead {w : World} {a : Option Addr} {l : List UInt8} {N c : Nat} (h : IsArg w (.slice a N c) l) (n : Nat) (hn : n ≤ l.length) : IsArg w (.slice a n c) (l.take n) := by
  refine ⟨h.1.front n hn, ?_⟩
  rcases h.2 with ⟨h1, h2⟩ | ⟨ad, c0, h1, h2⟩
  · subst h2
    have : n = 0 := by simpa using hn
    subst this
    cases h1
    exact .inl ⟨rfl, by simp⟩
  · cases h1
    have hl : (l.take n).length = n := by simp; omega
    refine .inr ⟨ad, c, by rw [hl], fun j u hu => ?_⟩
    have hj : j < (l.take n).length := by have := (List.getElem?_eq_some_iff.1 hu).1; rwa [byteCells_length] at this
    refine h2 j u ?_
    rw [← hu]
    rw [hl] at hj
    simp [byteCells, hj]
theorem IsBytes.cap {w : World} {a : Option Addr} {l : List UInt8} {N c : Nat} (h : IsBytes w (.slice a N c) l) (h0 : l ≠ []) : l.length ≤ c ∧ c ≤ maxLen := by
  rcases h with ⟨_, _, _, h2⟩ | ⟨b, off, cap, h1, h2, h3, _⟩
  · exact absurd h2 h0
  · cases h1; exact ⟨h2, h3⟩
theorem closed_shape (v : Value) (l : List UInt8) (w : World) (hv : IsArg w v l) (hlen : l.length ≤ 1000000) (N : Nat) (hN : l.length = N) :
    Calls Try.prog 8 #[v] w fun e w' => ∃ a c, e = .returned (.slice a (N + 4) c) ∧ IsBytes w' (.slice a (N + 4) c) (crcClosed l) ∧ N + 4 ≤ c ∧ Below w.heap.size w w' :=
  (closed_any v l w hv hlen).mono fun e w' ⟨u, he, ho, hb⟩ => by
    have hi := isBytes_of_owns (l := crcClosed l) (by rw [closed_length]; exact ho)
    obtain ⟨a, c, hs⟩ := hi.shape
    rw [closed_length, hN] at hs
    subst hs
    have hc := (hi.cap (by intro h; have := congrArg List.length h; rw [closed_length] at this; simp at this)).1
    rw [closed_length, hN] at hc
    exact ⟨a, c, he, hi, hc, hb⟩

set_option maxHeartbeats 2000000 in
theorem crcHolds_law (w : World) (v : Value) (l : List UInt8) (hv : IsArg w v l) :
    Calls Try.prog 3 #[v] w fun e w' => e = .returned (.bool true) ∧ Below w.heap.size w w' := by
  obtain ⟨a, c, rfl⟩ := hv.1.shape
  by_cases h1 : 2000 < l.length
  · clear hv
    go_enter Try.func3, Try.ntmps3
    go_wp2_with (go_at_call 7; refine (heads_any _).mono ?_; rintro e w' ⟨rfl, hb⟩)
    go_ret
    exact ⟨rfl, hb⟩
  · obtain ⟨N, hN⟩ : ∃ N, N = l.length := ⟨_, rfl⟩
    rw [← hN] at hv h1
    rw [← hN]
    have HV := Lib.hid hv
    have HN := Lib.hid hN
    clear hv hN
    go_enter Try.func3, Try.ntmps3
    go_wp2_with fail
    refine (closed_shape _ l _ HV.out (by rw [← HN.out]; omega) N HN.out.symm).mono ?_
    rintro e w1 ⟨a1, c1, rfl, hu, hc1, hb⟩
    have HB1 := Lib.hid hb
    have HU := Lib.hid hu
    clear hb hu
    go_wp2_with fail
    have hh1 := holds_any _ _ w1 HU.out
    rw [holds_closed] at hh1
    have HH1 := Lib.hid hh1
    clear hh1
    refine HH1.out.mono ?_
    rintro e w2 ⟨rfl, hb⟩
    have hu2 := HU.out.below hb
    have HU2 := Lib.hid (show IsBytes w2 (.slice a1 N c1) l by
      have h := hu2.front N (by rw [closed_length, ← HN.out]; omega)
      rw [HN.out] at h
      unfold crcClosed at h
      rw [List.take_left, ← HN.out] at h
      exact h)
    have HB2 := Lib.hid (HB1.out.trans (hb.mono HB1.out.size))
    clear hb hu2 HH1 HB1 HU
    have hs1 := slice_to a1 (N + 4) c1 N (by omega)
    go_wp2_with fail
    refine (bytes_same _ _ l _ HU2.out (HV.out.1.below HB2.out)).mono ?_
    rintro e w' ⟨rfl, rfl⟩
    clear hs1 HU2
    go_wp2_with fail
    have hh2 := holds_any _ _ w2 (HV.out.1.below HB2.out)
    by_cases hh : crcHolds l = true
    · rw [hh] at hh2
      obtain ⟨h4, hcl⟩ := closed_of_holds l hh
      have HH2 := Lib.hid hh2
      have HCL := Lib.hid hcl
      have hN4 : 4 ≤ N := by rw [HN.out]; exact h4
      clear hh2 hh hcl h4
      refine HH2.out.mono ?_
      rintro e w3 ⟨rfl, hb⟩
      have HB3 := Lib.hid (HB2.out.trans (hb.mono HB2.out.size))
      clear hb HB2 HH2
      have hcN : N ≤ c := by
        have := (HV.out.1.cap (by intro h; have := HN.out; rw [h] at this; simp at this; omega)).1
        rwa [← HN.out] at this
      have hs2 : ∀ W, (Instr.slice 22 (.slice a N c) none (some (.int .i64 ((N : Int) - 4))) none).run Try.prog W = .ok (.slice a (N - 4) c) W := fun W => by
        have := slice_to a N c (N - 4) (by omega) W
        rwa [Int.ofNat_sub hN4] at this
      go_wp2_with fail
      have hc3 := closed_any (.slice a (N - 4) c) (l.take (N - 4)) w3 ((HV.out.ahead (N - 4) (by rw [← HN.out]; omega)).below HB3.out) (by simp; omega)
      have hte : l.take (N - 4) = l.take (l.length - 4) := by rw [HN.out]
      rw [hte, HCL.out] at hc3
      have HC3 := Lib.hid hc3
      clear hc3 hte hs2
      refine HC3.out.mono ?_
      rintro e w4 ⟨u, rfl, ho, hb⟩
      have HB4 := Lib.hid (HB3.out.trans (hb.mono HB3.out.size))
      have hlen4 : (l.take (l.length - 4)).length + 4 = l.length := by rw [List.length_take, ← HN.out]; omega
      rw [hlen4] at ho
      have HU4 := Lib.hid (isBytes_of_owns ho)
      clear hb HB3 HC3 ho hlen4
      go_wp2_with fail
      refine (bytes_same _ _ l _ HU4.out (HV.out.1.below HB4.out)).mono ?_
      rintro e w' ⟨rfl, rfl⟩
      clear HU4
      go_wp2_with fail
      refine (heads_any _).mono ?_
      rintro e w5 ⟨rfl, hb⟩
      go_wp2
      go_ret
      exact ⟨rfl, HB4.out.trans (hb.mono HB4.out.size)⟩
    · rw [Bool.not_eq_true] at hh
      rw [hh] at hh2
      have HH2 := Lib.hid hh2
      clear hh2 hh
      refine HH2.out.mono ?_
      rintro e w3 ⟨rfl, hb⟩
      have HB3 := Lib.hid (HB2.out.trans (hb.mono HB2.out.size))
      clear hb HB2 HH2
      go_wp2_with fail
      refine (heads_any _).mono ?_
      rintro e w5 ⟨rfl, hb⟩
      go_wp2
      go_ret
      exact ⟨rfl, HB3.out.trans (hb.mono HB3.out.size)⟩

set_option maxHeartbeats 2000000 in
theorem crcSums_law (w : World) (v : Value) (l : List UInt8) (hv : IsArg w v l) (x : Nat) (hx : x < 4294967296) (n : Nat) (hn : n < 256) :
    Calls Try.prog 4 #[v, .int .u32 x, .int .u8 n] w fun e w' => e = .returned (.bool true) ∧ Below w.heap.size w w' := by
  obtain ⟨a, c, rfl⟩ := hv.1.shape
  by_cases h1 : 3000 < l.length
  · clear hv
    go_enter Try.func4, Try.ntmps4
    go_wp2_with (go_at_call 7; refine (heads_any _).mono ?_; rintro e w' ⟨rfl, hb⟩)
    go_ret
    exact ⟨rfl, hb⟩
  · obtain ⟨k, rfl⟩ : ∃ k : UInt8, n = k.toNat := ⟨UInt8.ofNat n, by simp; omega⟩
    have hlm : l.length ≤ 1000000 := by omega
    have HV := Lib.hid hv
    obtain ⟨s, hs⟩ : ∃ s, s = crcOf l := ⟨_, rfl⟩
    obtain ⟨r, hr⟩ : ∃ r, r = nextN x k := ⟨_, rfl⟩
    obtain ⟨h, hh⟩ : ∃ h, h = crcHolds l := ⟨_, rfl⟩
    have c1 := fun W h => of_any (.slice a l.length c) l W h
    have c2 := fun W h => refOf_any (.slice a l.length c) l W h
    have c3 := fun W => next_any x hx k W
    have c4 := fun W => refNext_any x hx k W
    have c5 := fun W h => holds_any (.slice a l.length c) l W h
    have c6 := fun W h => refHolds_any (.slice a l.length c) l W h hlm
    rw [← hs] at c1 c2
    rw [← hr] at c3 c4
    rw [← hh] at c5 c6
    have C1 := Lib.hid c1; have C2 := Lib.hid c2; have C3 := Lib.hid c3; have C4 := Lib.hid c4; have C5 := Lib.hid c5; have C6 := Lib.hid c6
    clear hv hs hr hh c1 c2 c3 c4 c5 c6
    go_enter Try.func4, Try.ntmps4
    go_wp2_with fail
    refine (C1.out _ HV.out.1).mono ?_
    rintro e w1 ⟨rfl, hb⟩
    have HB1 := Lib.hid hb
    clear hb
    go_wp2_with fail
    refine (C2.out _ (HV.out.1.below HB1.out)).mono ?_
    rintro e w' ⟨rfl, rfl⟩
    go_wp2_with fail
    refine (C3.out _).mono ?_
    rintro e w' ⟨rfl, rfl⟩
    go_wp2_with fail
    refine (C4.out _).mono ?_
    rintro e w' ⟨rfl, rfl⟩
    go_wp2_with fail
    refine (closed_any _ l _ (HV.out.below HB1.out) hlm).mono ?_
    rintro e w2 ⟨u, rfl, ho, hb⟩
    have hu := isBytes_of_owns (l := crcClosed l) (by rw [closed_length]; exact ho)
    have HB2 := Lib.hid (HB1.out.trans (hb.mono HB1.out.size))
    clear hb HB1 ho
    go_wp2_with fail
    refine (refClosed_any _ l _ (HV.out.below HB2.out) hlm).mono ?_
    rintro e w3 ⟨u2, rfl, ho, hb⟩
    have hu2 := isBytes_of_owns (l := crcClosed l) (by rw [closed_length]; exact ho)
    have hu1 := hu.below hb
    have HB3 := Lib.hid (HB2.out.trans (hb.mono HB2.out.size))
    clear hb HB2 ho hu
    go_wp2_with fail
    refine (bytes_same _ _ _ _ hu1 hu2).mono ?_
    rintro e w' ⟨rfl, rfl⟩
    clear hu1 hu2
    go_wp2_with fail
    refine (C5.out _ (HV.out.1.below HB3.out)).mono ?_
    rintro e w4 ⟨rfl, hb⟩
    have HB4 := Lib.hid (HB3.out.trans (hb.mono HB3.out.size))
    clear hb HB3
    go_wp2_with fail
    refine (C6.out _ (HV.out.below HB4.out)).mono ?_
    rintro e w5 ⟨rfl, hb⟩
    have HB5 := Lib.hid (HB4.out.trans (hb.mono HB4.out.size))
    clear hb HB4
    cases h
    all_goals
      go_wp2_with fail
      refine (heads_any _).mono ?_
      rintro e w6 ⟨rfl, hb⟩
      go_wp2
      go_ret
      exact ⟨rfl, HB5.out.trans (hb.mono HB5.out.size)⟩
end Go.Proofs.Ytfkojcaefhknnaa
