/- What the document's own Be answers, for every number and size; what was there stays. -/
import Derived.Test.YtfaiblngchdpmaaDoorArg
import Derived.Deep.DeepMust
namespace Go.Proofs.YtfaiblngchdpmaaDoor
open Go.RowKit Go.Lib

set_option maxHeartbeats 1000000 in
theorem refLe_any (n : Nat) (z : Int) (k : Nat) (hz : Clamped z k) (hn : n < 18446744073709551616) (w : World) :
    Calls Tryd.prog 33 #[.int .u64 n, .int .i64 z] w fun e w' => ∃ v, e = .returned v ∧ w'.ownsRow w.heap.size 5 1 v k (byteCells (leB n k)) ∧ Below w.heap.size w w' := by
  obtain ⟨i0, hi, hz0, hz1, hz2⟩ := info_parts info8
  have hk : k ≤ 8 := by rcases hz with h | h | h <;> omega
  go_enter Tryd.func33, Tryd.ntmps33
  go_wp2
  go_loopw [0, 5, 6] (fun x v c wr => ∃ i : Nat, i ≤ k ∧ c = .int .i64 i ∧ x = .int .u64 ((n / 256 ^ i : Nat) : Int) ∧ wr.ownsRow w.heap.size 5 1 v i (byteCells (leB n i)) ∧ Below w.heap.size w wr) (fun _ _ c _ => k - (intOf c).toNat)
  case atStart => exact ⟨0, Nat.zero_le _, rfl, by simp, by simpa [leB, byteCells] using World.ownsRow_nil w w.heap.size 5 1, Below.refl _ _⟩
  case round =>
    obtain ⟨i, hi', rfl, rfl, hown, hb⟩ := hrel
    by_cases hlt : i < k
    · have h1 : (i : Int) < z := by rcases hz with h | h | h <;> omega
      have h2 : (i : Int) < 8 := by omega
      have hsz := hb.size
      obtain ⟨q, hq⟩ : ∃ q, q = n / 256 ^ i := ⟨_, rfl⟩
      rw [← hq]
      have hq1 : q < 18446744073709551616 := by rw [hq]; exact Nat.lt_of_le_of_lt (Nat.div_le_self _ _) hn
      have Hq := Lib.hid hq
      clear hq
      go_wp2_with (at_builtin; refine wpList_append_own _ rfl _ _ 24 rfl w.heap.size 5 i0 (.int .u8 0) 1 1 Tryd.underlying24 hi hz0 hz1 hz2 rfl (by decide) _ _ _ rfl (hown.alloc _) ⟨wr.heap.size, 0, none⟩ 1 1 [.int .u8 ((q : Int) % 256)] rfl rfl ?c1 ?c2 ?c3 ?c4 ?c5 ?_)
      case c1 => exact cell_one_new _ _ _
      case c2 => intro u hu; simp at hu; subst hu; rfl
      case c3 => unfold maxLen; omega
      case c4 => omega
      case c5 => simp; omega
      intro v' w1 hown' hgrow _
      go_wp2
      go_roundw
      case rel =>
        refine ⟨i + 1, by omega, by go_num, by rw [div_step n i q Hq.out], ?_, ?_⟩
        · rw [leB_succ, byteCells_append]
          simpa [byteCells, ← Hq.out] using hown'
        · exact (hb.alloc hsz _).grown hgrow (by simp; omega) (fun k hk => (hown.lt k hk).1)
      case measure => simp [intOf]; omega
    · obtain rfl : i = k := by omega
      have h2 : ¬ ((i : Int) < z ∧ (i : Int) < 8) := by rcases hz with h | h | h <;> omega
      by_cases h1 : (i : Int) < z
      · have h3 : ¬ (i : Int) < 8 := by omega
        go_wp2
        go_ret
        exact ⟨_, rfl, hown, hb⟩
      · go_wp2
        go_ret
        exact ⟨_, rfl, hown, hb⟩

set_option maxHeartbeats 1000000 in
theorem refBe_any (n : Nat) (z : Int) (k : Nat) (hz : Clamped z k) (hn : n < 18446744073709551616) (w : World) :
    Calls Tryd.prog 27 #[.int .u64 n, .int .i64 z] w fun e w' => ∃ v, e = .returned v ∧ w'.ownsRow w.heap.size 5 1 v k (byteCells (beB n k)) ∧ Below w.heap.size w w' := by
  obtain ⟨i0, hi, hz0, hz1, hz2⟩ := info_parts info8
  have hk : k ≤ 8 := by rcases hz with h | h | h <;> omega
  go_enter Tryd.func27, Tryd.ntmps27
  go_wp2_with (go_at_call 33; refine (refLe_any n z k hz hn _).mono ?_; rintro e w1 ⟨lv, rfl, hol, hbl⟩)
  have hib := isBytes_of_owns (l := leB n k) (by rw [leB_length]; exact hol)
  rcases hib with ⟨a0, c0, rfl, h0⟩ | ⟨b, off, cap, rfl, hc1, hc2, hbk, hcell⟩
  · have hk0 : k = 0 := by have := congrArg List.length h0; simpa using this
    subst hk0
    go_loopw [6, 7] (fun v c wr => v = .slice none 0 0 ∧ c = .int .i64 1 ∧ Below w.heap.size w wr) (fun _ c _ => 0)
    case atStart => exact ⟨rfl, rfl, hbl⟩
    case round =>
      obtain ⟨rfl, rfl, hb⟩ := hrel
      go_wp2
      go_ret
      exact ⟨_, rfl, by simpa [beB, leB, byteCells] using World.ownsRow_nil _ w.heap.size 5 1, hb⟩
  · have HC := Lib.hid hcell
    clear hcell hol
    have hlen : (leB n k).length = k := leB_length n k
    rw [hlen]
    have HL := Lib.hid hlen
    rw [hlen] at hc1
    clear hlen
    have hsz1 := hbl.size
    unfold maxLen at hc2
    go_loopw [6, 7] (fun v c wr => ∃ i : Nat, i ≤ k ∧ c = .int .i64 ((i : Int) + 1) ∧ wr.ownsRow w1.heap.size 5 1 v i (byteCells ((beB n k).take i)) ∧ Below w1.heap.size w1 wr) (fun _ c _ => k + 1 - (intOf c).toNat)
    case atStart => exact ⟨0, Nat.zero_le _, rfl, by simpa [byteCells] using World.ownsRow_nil w1 w1.heap.size 5 1, Below.refl _ _⟩
    case round =>
      obtain ⟨i, hi', rfl, hown, hb⟩ := hrel
      have hsz := hb.size
      by_cases hlt : i < k
      · obtain ⟨x, hx⟩ : ∃ x, x = (leB n k)[k - 1 - i]?.getD 0 := ⟨_, rfl⟩
        have hbr : b < wr.heap.size := by omega
        have hcl : wr.cell? ⟨b, off + (k - 1 - i), none⟩ = some (.int .u8 x.toNat) := by
          rw [hb.cell (by simpa using hbk), HC.out _ (by rw [HL.out]; omega), hx]; simp
        have hix : (k : Int) - ((i : Int) + 1) = ((k - 1 - i : Nat) : Int) := by omega
        have hix2 : k - (i + 1) = k - 1 - i := by omega
        have Hx := Lib.hid hx
        clear hx
        go_wp2_with (at_builtin; refine wpList_append_own _ rfl _ _ 24 rfl w1.heap.size 5 i0 (.int .u8 0) 1 1 Tryd.underlying24 hi hz0 hz1 hz2 rfl (by decide) _ _ _ rfl (hown.alloc _) ⟨wr.heap.size, 0, none⟩ 1 1 [.int .u8 (x.toNat : Int)] rfl rfl ?c1 ?c2 ?c3 ?c4 ?c5 ?_)
        case c1 => exact cell_one_new _ _ _
        case c2 => intro u hu; simp at hu; subst hu; rfl
        case c3 => unfold maxLen; omega
        case c4 => omega
        case c5 => simp; omega
        intro v' w2 hown' hgrow _
        go_wp2
        go_roundw
        case rel =>
          refine ⟨i + 1, by omega, by go_num, ?_, ?_⟩
          · rw [beB_take n k i hlt, byteCells_append]
            simpa [byteCells, Hx.out] using hown'
          · exact (hb.alloc hsz _).grown hgrow (by simp; omega) (fun k hk => (hown.lt k hk).1)
        case measure => simp [intOf]; omega
      · obtain rfl : i = k := by omega
        go_wp2
        go_ret
        refine ⟨_, rfl, ?_, hbl.trans (hb.mono hsz1)⟩
        rw [List.take_of_length_le (by simp)] at hown
        exact ownsRow_base hown hsz1
end Go.Proofs.YtfaiblngchdpmaaDoor
