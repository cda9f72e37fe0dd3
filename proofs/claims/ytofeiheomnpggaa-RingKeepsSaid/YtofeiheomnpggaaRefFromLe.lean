/- What the document's own FromLe answers, for every bytes (of the first eight). -/
import Derived.Test.YtofeiheomnpggaaArg
import Derived.Deep.DeepMust
namespace Go.Proofs.Ytofeiheomnpggaa
open Go.RowKit Go.Lib

set_option maxHeartbeats 1000000 in
theorem refFromLe_any (v : Value) (l : List UInt8) (w : World) (hv : IsBytes w v l) :
    Calls Try.prog 66 #[v] w fun e w' => e = .returned (.int .u64 (leN (l.take 8))) ∧ w = w' := by
  rcases hv with ⟨a0, c0, rfl, rfl⟩ | ⟨b, off, cap, rfl, hc1, hc2, hb, hcell⟩
  · go_enter Try.func66, Try.ntmps66
    go_wp2
    go_loop [3, 4, 5] (fun x f c => x = .int .u64 0 ∧ f = .int .u64 1 ∧ c = .int .i64 0) (fun _ _ _ => 0)
    case atStart => exact ⟨rfl, rfl, rfl⟩
    case round =>
      obtain ⟨rfl, rfl, rfl⟩ := hrel
      go_wp2
      go_ret
      exact ⟨rfl, rfl⟩
  · unfold maxLen at hc2
    have HC := Lib.hid hcell
    clear hcell
    go_enter Try.func66, Try.ntmps66
    go_wp2
    go_loop [3, 4, 5] (fun x f c => ∃ i : Nat, i ≤ 8 ∧ i ≤ l.length ∧ c = .int .i64 i ∧ x = .int .u64 (leN (l.take i)) ∧ f = .int .u64 (p256 i)) (fun _ _ c => l.length - (intOf c).toNat)
    case atStart => exact ⟨0, by omega, by omega, rfl, rfl, rfl⟩
    case round =>
      obtain ⟨i, hi8, hil, rfl, rfl, rfl⟩ := hrel
      by_cases hlt : i < l.length ∧ i < 8
      · obtain ⟨h1, h2⟩ := hlt
        obtain ⟨f, hf⟩ : ∃ f, f = p256 i := ⟨_, rfl⟩
        rw [← hf]
        obtain ⟨N, hN⟩ : ∃ N, N = leN (l.take i) := ⟨_, rfl⟩
        rw [← hN]
        obtain ⟨x, hx⟩ : ∃ x, x = l[i]?.getD 0 := ⟨_, rfl⟩
        have hcl : w.cell? ⟨b, off + i, none⟩ = some (.int .u8 x.toNat) := by rw [HC.out i h1, hx]; simp
        have Hst := Lib.hid (le_step l i N f x hN hf hx h1 h2)
        clear hf hN hx
        go_wp2
        go_round
        case rel => exact ⟨i + 1, by omega, by omega, by go_num, by rw [Hst.out.1], by rw [Hst.out.2]⟩
        case measure => simp [intOf]; omega
      · by_cases h1 : i < l.length
        · have h2 : ¬ (i : Int) < 8 := by omega
          obtain rfl : i = 8 := by omega
          go_wp2
          go_ret
          exact ⟨rfl, rfl⟩
        · obtain rfl : i = l.length := by omega
          have h88 : l.take 8 = l := List.take_of_length_le (by omega)
          have H88 := Lib.hid h88
          clear h88
          go_wp2
          go_ret
          exact ⟨by rw [H88.out]; rfl, rfl⟩
end Go.Proofs.Ytofeiheomnpggaa
