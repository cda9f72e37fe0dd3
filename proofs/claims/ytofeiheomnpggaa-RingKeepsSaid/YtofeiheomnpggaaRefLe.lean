/- What the document's own Le answers, for every number and size; what was there stays. -/
import Derived.Test.YtofeiheomnpggaaArg
import Derived.Deep.DeepMust
namespace Go.Proofs.Ytofeiheomnpggaa
open Go.RowKit Go.Lib

set_option maxHeartbeats 1000000 in
theorem refLe_any (n : Nat) (z : Int) (k : Nat) (hz : Clamped z k) (hn : n < 18446744073709551616) (w : World) :
    Calls Try.prog 71 #[.int .u64 n, .int .i64 z] w fun e w' => ∃ v, e = .returned v ∧ w'.ownsRow w.heap.size 5 1 v k (byteCells (leB n k)) ∧ Below w.heap.size w w' := by
  obtain ⟨i0, hi, hz0, hz1, hz2⟩ := info_parts info8
  have hk : k ≤ 8 := by rcases hz with h | h | h <;> omega
  go_enter Try.func71, Try.ntmps71
  go_wp2
  go_loopw [0, 5, 6] (fun x v c wr => ∃ i : Nat, i ≤ k ∧ c = .int .i64 i ∧ x = .int .u64 ((n / 256 ^ i : Nat) : Int) ∧ wr.ownsRow w.heap.size 5 1 v i (byteCells (leB n i)) ∧ Below w.heap.size w wr) (fun _ _ c _ => k - (intOf c).toNat)
  case atStart => exact ⟨0, Nat.zero_le _, rfl, by simp, by simpa [leB, byteCells] using World.ownsRow_nil w w.heap.size 5 1, Below.refl _ _⟩
  case round =>
    obtain ⟨i, hi', rfl, rfl, hown, hb⟩ := hrel
    by_cases hlt : i < k
    · have h1 : (i : Int) < z := by rcases hz with h | h | h <;> omega
      have h2 : (i : Int) < 8 := by omega
      have hsz := hb.size
      obtain ⟨q, hq⟩ : ∃ q, q = n / 256 ^ i := ⟨_, rfl⟩
      rw [← hq]
      have hq1 : q < 18446744073709551616 := by rw [hq]; exact Nat.lt_of_le_of_lt (Nat.div_le_self _ _) hn
      have Hq := Lib.hid hq
      clear hq
      go_wp2_with (at_builtin; refine wpList_append_own _ rfl _ _ 26 rfl w.heap.size 5 i0 (.int .u8 0) 1 1 Try.underlying26 hi hz0 hz1 hz2 rfl (by decide) _ _ _ rfl (hown.alloc _) ⟨wr.heap.size, 0, none⟩ 1 1 [.int .u8 ((q : Int) % 256)] rfl rfl ?c1 ?c2 ?c3 ?c4 ?c5 ?_)
      case c1 => exact cell_one_new _ _ _
      case c2 => intro u hu; simp at hu; subst hu; rfl
      case c3 => unfold maxLen; omega
      case c4 => omega
      case c5 => simp; omega
      intro v' w1 hown' hgrow _
      go_wp2
      go_roundw
      case rel =>
        refine ⟨i + 1, by omega, by go_num, by rw [div_step n i q Hq.out], ?_, ?_⟩
        · rw [leB_succ, byteCells_append]
          simpa [byteCells, ← Hq.out] using hown'
        · exact (hb.alloc hsz _).grown hgrow (by simp; omega) (fun k hk => (hown.lt k hk).1)
      case measure => simp [intOf]; omega
    · obtain rfl : i = k := by omega
      have h2 : ¬ ((i : Int) < z ∧ (i : Int) < 8) := by rcases hz with h | h | h <;> omega
      by_cases h1 : (i : Int) < z
      · have h3 : ¬ (i : Int) < 8 := by omega
        go_wp2
        go_ret
        exact ⟨_, rfl, hown, hb⟩
      · go_wp2
        go_ret
        exact ⟨_, rfl, hown, hb⟩
end Go.Proofs.Ytofeiheomnpggaa
