/- The law ShaWhole returns true for every input, where the two tables hold what is laid. -/
import Derived.Test.YtfaiblngchdpmaaDoorShaH
import Derived.Test.YtfaiblngchdpmaaDoorRefFromBe
namespace Go.Proofs.YtfaiblngchdpmaaDoor
open Go.RowKit Go.Lib

theorem pad_le (n : Nat) : 9 ≤ (padOf n).length ∧ (padOf n).length ≤ 72 := by rw [padOf_length]; unfold padZeros; omega
theorem pad_first (n : Nat) : (padOf n).getD 0 0 = 128 := rfl
theorem pad_mid (n i : Nat) (h1 : 1 ≤ i) (h2 : i + 8 < (padOf n).length) : (padOf n).getD i 0 = 0 := by
  rw [padOf_length] at h2
  obtain ⟨k, rfl⟩ : ∃ k, i = k + 1 := ⟨i - 1, by omega⟩
  have h3 : (padOf n)[k + 1]? = some 0 := by
    show (128 :: (List.replicate (padZeros n) 0 ++ beB (8 * n) 8))[k + 1]? = some 0
    rw [List.getElem?_cons_succ, List.getElem?_append_left (by simp; omega), List.getElem?_replicate, if_pos (by omega)]
  simp [h3]
theorem pad_end (n m : Nat) (h : m + 8 = (padOf n).length) : (padOf n).drop m = beB (8 * n) 8 := by
  rw [padOf_length] at h
  show (128 :: (List.replicate (padZeros n) 0 ++ beB (8 * n) 8)).drop m = _
  rw [show m = padZeros n + 1 by omega, List.drop_succ_cons, List.drop_append_of_le_length (by simp), List.drop_of_length_le (by simp), List.nil_append]
theorem leN_leB' (n k : Nat) : leN (leB n k) = n % 256 ^ k := by
  induction k with
  | zero => simp [leB, leN, Nat.mod_one]
  | succ k ih =>
    rw [leB_succ, leN_snoc, ih, leB_length]
    have h1 : (UInt8.ofNat (n / 256 ^ k)).toNat = n / 256 ^ k % 256 := by simp
    rw [h1, Nat.pow_succ, Nat.mod_mul, Nat.mul_comm]
theorem beN_beB (n : Nat) (h : n < 18446744073709551616) : beN ((beB n 8).take 8) = n := by
  rw [List.take_of_length_le (by simp)]
  unfold beN beB
  rw [List.reverse_reverse, leN_leB']
  exact Nat.mod_eq_of_lt (by have : (256 : Nat) ^ 8 = 18446744073709551616 := rfl
                             omega)
/-- What stands behind bytes, as a slice that is no nil. -/
theorem pad_shape (n : Nat) (hn : n ≤ 1000000) (w : World) : Calls Tryd.prog 13 #[.int .i64 n] w fun e w' => ∃ g c, e = .returned (.slice (some ⟨g, 0, none⟩) (padOf n).length c) ∧ (padOf n).length ≤ c ∧ c ≤ maxLen ∧ g < w'.heap.size ∧ (∀ i, i < (padOf n).length → w'.cell? ⟨g, i, none⟩ = some (.int .u8 ((padOf n).getD i 0).toNat)) ∧ Below w.heap.size w w' :=
  (pad_any n hn w).mono fun e w' ⟨v, he, ho, hb⟩ => by
    have hi := isBytes_of_owns ho
    have hl := pad_le n
    rcases ho.2 with ⟨_, h0⟩ | ⟨g, cap, cur, hv, _, hh, hn, hm, _, htk⟩
    · omega
    · subst hv
      refine ⟨g, cap, he, hn, hm, (Array.getElem?_eq_some_iff.1 hh).1, fun i hi => ?_, hb⟩
      have hc := World.ownsRow.cells ho (g := g) rfl i (.int .u8 ((padOf n).getD i 0).toNat) (by simp [byteCells, hi])
      rw [Addr.add_lit, Nat.zero_add] at hc
      exact hc
theorem shaWhole_out (w : World) (hL : Laid w) (z : Int) (h : z < 0 ∨ 2000 < z) :
    Calls Tryd.prog 5 #[.int .i64 z] w fun e w' => e = .returned (.bool true) ∧ Below w.heap.size w w' := by
  by_cases h1 : z < 0
  · clear h
    go_enter Tryd.func5, Tryd.ntmps5
    go_wp2_with (go_at_call 7; refine (heads_any _ hL).mono ?_; rintro e w' ⟨rfl, hb⟩)
    go_ret
    exact ⟨rfl, hb⟩
  · have h2 : 2000 < z := by omega
    clear h
    go_enter Tryd.func5, Tryd.ntmps5
    go_wp2_with (go_at_call 7; refine (heads_any _ hL).mono ?_; rintro e w' ⟨rfl, hb⟩)
    go_ret
    exact ⟨rfl, hb⟩
set_option maxHeartbeats 2000000 in
theorem shaWhole_in (w : World) (hL : Laid w) (n : Nat) (hn : n ≤ 2000) :
    Calls Tryd.prog 5 #[.int .i64 n] w fun e w' => e = .returned (.bool true) ∧ Below w.heap.size w w' := by
  have hp := pad_shape n (by omega) w
  obtain ⟨P, hP⟩ : ∃ P, P = padOf n := ⟨_, rfl⟩
  obtain ⟨L, hLe⟩ : ∃ L, L = P.length := ⟨_, rfl⟩
  have h1 := pad_le n
  have h2 := padOf_whole n
  rw [← hP] at hp h1 h2
  rw [← hLe] at hp h1 h2
  have HP := Lib.hid hp
  have HPn := Lib.hid hP
  have HLe := Lib.hid hLe
  have HL := Lib.hid hL
  obtain ⟨h9, h72⟩ := h1
  have hq : ((n : Int) + (L : Int)) % 64 = 0 := by omega
  clear hp hP hLe hL h2
  go_enter Tryd.func5, Tryd.ntmps5
  go_wp2_with fail
  refine HP.out.mono ?_
  rintro e w1 ⟨g, c, rfl, hc1, hc2, hg, hcell, hb1⟩
  have HC := Lib.hid hcell
  have HB := Lib.hid hb1
  have c0 : w1.cell? ⟨g, 0, none⟩ = some (.int .u8 128) := by
    rw [hcell 0 (by omega), HPn.out, pad_first]
    rfl
  unfold maxLen at hc2
  clear hcell hb1
  go_wp2_with fail
  clear hq c0
  go_loop [4] (fun c => ∃ i : Nat, 1 ≤ i ∧ i + 8 ≤ L ∧ c = .int .i64 i) (fun c => L - (intOf c).toNat)
  case atStart => exact ⟨1, by omega, by omega, rfl⟩
  case round =>
    obtain ⟨i, hi1, hi2, rfl⟩ := hrel
    by_cases hlt : i + 8 < L
    · have hci : w1.cell? ⟨g, i, none⟩ = some (.int .u8 0) := by
        rw [HC.out i (by omega), HPn.out, pad_mid n i hi1 (by rw [← HPn.out, ← HLe.out]; exact hlt)]
        rfl
      go_wp2
      go_round
      case rel => exact ⟨i + 1, by omega, by omega, by go_num⟩
      case measure => simp [intOf]; omega
    · obtain ⟨m, hm⟩ : ∃ m, m = L - 8 := ⟨_, rfl⟩
      have him : i = m := by omega
      have hib : IsBytes w1 (.slice (some ⟨g, m, none⟩) 8 (c - m)) (beB (8 * n) 8) := by
        refine .inr ⟨g, m, c - m, by rw [beB_length], by rw [beB_length]; omega, by unfold maxLen; omega, hg, fun q hq => ?_⟩
        rw [beB_length] at hq
        rw [HC.out (m + q) (by omega), HPn.out]
        have hd := pad_end n m (by rw [← HPn.out, ← HLe.out]; omega)
        have h3 : (padOf n).getD (m + q) 0 = (beB (8 * n) 8).getD q 0 := by
          rw [← hd]
          simp [List.getElem?_drop]
        rw [h3]
      have hfb := refFromBe_any _ _ w1 hib
      rw [beN_beB (8 * n) (by omega)] at hfb
      have HFB := Lib.hid hfb
      have hsf : ∀ W, (Instr.slice 24 (.slice (some ⟨g, 0, none⟩) L c) (some (.int .i64 (m : Int))) none none).run Tryd.prog W = .ok (.slice (some ⟨g, m, none⟩) 8 (c - m)) W := fun W => by
        rw [slice_from (some ⟨g, 0, none⟩) L c m (by omega) W, if_neg (by omega), show L - m = 8 by omega]
        simp only [Option.map_some, Addr.add_lit, Nat.zero_add]
      have hm8 : (L : Int) - 8 = (m : Int) := by omega
      have hw8 : IntKind.u64.wrap (8 * (n : Int)) = ((8 * n : Nat) : Int) := by rw [wrap64u]; omega
      have hLd := Lib.hid (HL.out.below HB.out)
      clear hib hfb hm
      go_wp2_with fail
      refine HFB.out.mono ?_
      rintro e w2 ⟨rfl, rfl⟩
      go_wp2_with fail
      refine (heads_any _ hLd.out).mono ?_
      rintro e w3 ⟨rfl, hb3⟩
      go_wp2
      go_ret
      exact ⟨rfl, HB.out.trans (hb3.mono HB.out.size)⟩
theorem shaWhole_law (w : World) (hL : Laid w) (z : Int) (hz : -9223372036854775808 ≤ z ∧ z ≤ 9223372036854775807) :
    Calls Tryd.prog 5 #[.int .i64 z] w fun e w' => e = .returned (.bool true) ∧ Below w.heap.size w w' := by
  by_cases h : z < 0 ∨ 2000 < z
  · exact shaWhole_out w hL z h
  · obtain ⟨n, rfl⟩ := Int.eq_ofNat_of_zero_le (show 0 ≤ z by omega)
    exact shaWhole_in w hL n (by omega)
end Go.Proofs.YtfaiblngchdpmaaDoor
