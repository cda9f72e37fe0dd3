/- What num.Check and the document's own Check are, for bytes of at most 1000000, and that Bytes says yes of two slices of the same bytes. -/
import Derived.Test.YtddimcicajlbgaaDoorNumD
import Derived.Test.YtddimcicajlbgaaDoorNumQ
namespace Go.Proofs.YtddimcicajlbgaaDoor
open Go.RowKit Go.Lib

theorem conv_bytes {v : Value} {l : List UInt8} {w : World} (hv : IsBytes w v l) : (convert 24 9 v).run Tryd.prog w = .ok (.string ⟨l.toArray⟩) w := by
  rcases hv with ⟨a0, c0, rfl, rfl⟩ | ⟨b, off, cap, rfl, hc1, hc2, hb, hcell⟩
  · cases a0 with
    | none => exact run_convert_bytes_nil w _ _ Tryd.underlying24 Tryd.underlying5 0 c0 _ Tryd.underlying9
    | some a => exact run_convert_bytes_back w _ _ _ a c0 [] Tryd.underlying24 Tryd.underlying5 Tryd.underlying9 (fun j hj => by simp at hj)
  · refine run_convert_bytes_back w _ _ _ ⟨b, off, none⟩ cap l Tryd.underlying24 Tryd.underlying5 Tryd.underlying9 (fun j hj => ?_)
    rw [Addr.add_lit, hcell j hj]
    simp [hj]

set_option maxHeartbeats 400000 in
theorem bytes_same (a b : Value) (l : List UInt8) (w : World) (ha : IsBytes w a l) (hb : IsBytes w b l) :
    Calls Tryd.prog 11 #[a, b] w fun e w' => e = .returned (.bool true) ∧ w = w' := by
  have h1 := conv_bytes ha
  have h2 := conv_bytes hb
  go_enter Tryd.func11, Tryd.ntmps11
  go_wp2
  go_ret
  exact ⟨rfl, rfl⟩

set_option maxHeartbeats 1000000 in
theorem check_any (v : Value) (l : List UInt8) (w : World) (hv : IsBytes w v l) (hlen : l.length ≤ 1000000) :
    Calls Tryd.prog 20 #[v] w fun e w' => e = .returned (.int .u16 (chk l : Nat)) ∧ w = w' := by
  rcases hv with ⟨a0, c0, rfl, rfl⟩ | ⟨b, off, cap, rfl, hc1, hc2, hb, hcell⟩
  · go_enter Tryd.func20, Tryd.ntmps20
    go_wp2
    go_loop [3, 4, 7] (fun x _ c => x = .int .u64 0 ∧ c = .int .i64 0) (fun _ _ _ => 0)
    case atStart => exact ⟨rfl, rfl⟩
    case round =>
      obtain ⟨rfl, rfl⟩ := hrel
      go_wp2
      go_loop [3] (fun x => x = .int .u64 0) (fun _ => 0)
      case atStart => rfl
      case round =>
        obtain rfl := hrel
        go_wp2
        go_ret
        exact ⟨rfl, rfl⟩
  · unfold maxLen at hc2
    have HC := Lib.hid hcell
    clear hcell
    go_enter Tryd.func20, Tryd.ntmps20
    go_wp2
    go_loop [3, 4, 7] (fun x _ c => ∃ i : Nat, i ≤ l.length ∧ c = .int .i64 i ∧ x = .int .u64 (sumTo l i)) (fun _ _ c => l.length - (intOf c).toNat)
    case atStart => exact ⟨0, Nat.zero_le _, rfl, rfl⟩
    case round =>
      obtain ⟨i, hi, rfl, rfl⟩ := hrel
      by_cases hlt : i < l.length
      · obtain ⟨x, hx⟩ : ∃ x, x = l[i]?.getD 0 := ⟨_, rfl⟩
        have hcl : w.cell? ⟨b, off + i, none⟩ = some (.int .u8 x.toNat) := by rw [HC.out i hlt, hx]; simp
        have hle := sumTo_le l i
        have hxb := x.toNat_lt
        by_cases hev : i % 2 = 0
        · have Hst := Lib.hid (sum_even l i x hx hev (by omega))
          have hev2 : (((i : Nat) : Int) % 2 == 0) = true := by rw [beq_iff_eq]; omega
          clear hx hev
          go_wp2
          go_round
          case rel => exact ⟨i + 1, by omega, by go_num, by rw [Hst.out.1, Int.natCast_add, Int.natCast_mul, Int.mul_comm]; rfl⟩
          case measure => simp [intOf]; omega
        · have Hst := Lib.hid (sum_odd l i x hx hev (by omega))
          have hev2 : (((i : Nat) : Int) % 2 == 0) = false := by rw [beq_eq_false_iff_ne]; omega
          clear hx hev
          go_wp2
          go_round
          case rel => exact ⟨i + 1, by omega, by go_num, by rw [Hst.out.1, Int.natCast_add]⟩
          case measure => simp [intOf]; omega
      · obtain rfl : i = l.length := by omega
        have hle := sumTo_le l l.length
        go_wp2
        go_loop [3] (fun x => ∃ s : Nat, s ≤ 100000000000 ∧ fold16 s = fold16 (sumTo l l.length) ∧ x = .int .u64 s) (fun x => (intOf x).toNat)
        case atStart => exact ⟨_, by omega, rfl, rfl⟩
        case round =>
          obtain ⟨s, hs, hf, rfl⟩ := hrel
          have Hf := Lib.hid hf
          clear hf
          by_cases hgt : 65535 < s
          · have hbw := and_walk s hs
            go_wp2
            go_round
            case rel => exact ⟨s / 65536 + s % 65536, by omega, by rw [fold16_step _ hgt]; exact Hf.out, by rw [Int.natCast_add, Int.natCast_ediv, Int.natCast_emod]; rfl⟩
            case measure => simp [intOf]; omega
          · have hnw := not_walk s (by omega)
            have hck : chk l = 65535 - s := by unfold chk; rw [← Hf.out, fold16_small _ (by omega)]
            have Hck := Lib.hid hck
            have Hnw := Lib.hid hnw
            clear hck hnw
            go_wp2
            go_ret
            exact ⟨by rw [Hck.out, ← Hnw.out]; rfl, rfl⟩

set_option maxHeartbeats 1000000 in
theorem refCheck_any (v : Value) (l : List UInt8) (w : World) (hv : IsBytes w v l) (hlen : l.length ≤ 1000000) :
    Calls Tryd.prog 21 #[v] w fun e w' => e = .returned (.int .u16 (chk l : Nat)) ∧ w = w' := by
  rcases hv with ⟨a0, c0, rfl, rfl⟩ | ⟨b, off, cap, rfl, hc1, hc2, hb, hcell⟩
  · go_enter Tryd.func21, Tryd.ntmps21
    go_wp2
    go_loop [3, 4] (fun x c => x = .int .u64 0 ∧ c = .int .i64 0) (fun _ _ => 0)
    case atStart => exact ⟨rfl, rfl⟩
    case round =>
      obtain ⟨rfl, rfl⟩ := hrel
      go_wp2
      go_loop [3] (fun x => x = .int .u64 0) (fun _ => 0)
      case atStart => rfl
      case round =>
        obtain rfl := hrel
        go_wp2
        go_ret
        exact ⟨rfl, rfl⟩
  · unfold maxLen at hc2
    have HC := Lib.hid hcell
    clear hcell
    go_enter Tryd.func21, Tryd.ntmps21
    go_wp2
    go_loop [3, 4] (fun x c => ∃ i : Nat, i ≤ l.length ∧ c = .int .i64 i ∧ x = .int .u64 (sumTo l i)) (fun _ c => l.length - (intOf c).toNat)
    case atStart => exact ⟨0, Nat.zero_le _, rfl, rfl⟩
    case round =>
      obtain ⟨i, hi, rfl, rfl⟩ := hrel
      by_cases hlt : i < l.length
      · obtain ⟨x, hx⟩ : ∃ x, x = l[i]?.getD 0 := ⟨_, rfl⟩
        have hcl : w.cell? ⟨b, off + i, none⟩ = some (.int .u8 x.toNat) := by rw [HC.out i hlt, hx]; simp
        have hle := sumTo_le l i
        have hxb := x.toNat_lt
        by_cases hev : i % 2 = 0
        · have Hst := Lib.hid (sum_even l i x hx hev (by omega))
          have hev2 : (((i : Nat) : Int) % 2 == 0) = true := by rw [beq_iff_eq]; omega
          clear hx hev
          go_wp2
          go_round
          case rel => exact ⟨i + 1, by omega, by go_num, by rw [Hst.out.1, Int.natCast_add, Int.natCast_mul]; rfl⟩
          case measure => simp [intOf]; omega
        · have Hst := Lib.hid (sum_odd l i x hx hev (by omega))
          have hev2 : (((i : Nat) : Int) % 2 == 0) = false := by rw [beq_eq_false_iff_ne]; omega
          clear hx hev
          go_wp2
          go_round
          case rel => exact ⟨i + 1, by omega, by go_num, by rw [Hst.out.1, Int.natCast_add]⟩
          case measure => simp [intOf]; omega
      · obtain rfl : i = l.length := by omega
        have hle := sumTo_le l l.length
        go_wp2
        go_loop [3] (fun x => ∃ s : Int, 0 ≤ s ∧ s ≤ 100000000000 ∧ fold16 s.toNat = fold16 (sumTo l l.length) ∧ x = .int .u64 s) (fun x => (intOf x).toNat)
        case atStart => exact ⟨_, Int.natCast_nonneg _, by omega, by rw [Int.toNat_natCast], rfl⟩
        case round =>
          obtain ⟨s, hs0, hs, hf, rfl⟩ := hrel
          have Hf := Lib.hid hf
          clear hf
          by_cases hgt : 65535 < s
          · go_wp2
            go_round
            case rel => exact ⟨s % 65536 + s / 65536, by omega, by omega, by rw [← Hf.out, ← fold16_step s.toNat (by omega)]; congr 1; omega, rfl⟩
            case measure => simp [intOf]; omega
          · have hck : chk l = 65535 - s.toNat := by unfold chk; rw [← Hf.out, fold16_small _ (by omega)]
            have Hck := Lib.hid hck
            clear hck
            go_wp2
            go_ret
            exact ⟨by rw [Hck.out, Int.ofNat_sub (by omega), Int.toNat_of_nonneg hs0]; rfl, rfl⟩
end Go.Proofs.YtddimcicajlbgaaDoor
