/- ShaChain where its texts are too many. -/
import Derived.Test.YtfaiblngchdpmaaDoorShaCp
namespace Go.Proofs.YtfaiblngchdpmaaDoor
open Go.RowKit Go.Lib

theorem IsRows.len_le {w : World} {v : Value} {n : Nat} {V : Nat → Value} {Z : Nat → List UInt8} (h : IsRows w v n V Z) : ∃ a c, v = .slice a n c ∧ n ≤ 9223372036854775807 := by
  obtain ⟨a, c, h1, h2, h3, _⟩ := h
  unfold maxLen at h3
  exact ⟨a, c, h1, by omega⟩
set_option maxRecDepth 100000 in
set_option maxHeartbeats 2000000 in
theorem shaChain_out (w : World) (hL : Laid w) (va : Value) (na : Nat) (Va : Nat → Value) (Za : Nat → List UInt8) (ha : IsRows w va na Va Za) (vb : Value) (nb : Nat) (Vb : Nat → Value) (Zb : Nat → List UInt8) (hb : IsRows w vb nb Vb Zb) (CV DV : Array Value) (ho : 8 < na ∨ nb < na) :
    Calls Tryd.prog 6 #[va, vb, .agg CV, .agg DV] w fun e w' => e = .returned (.bool true) ∧ Below w.heap.size w w' := by
  obtain ⟨a, ca, rfl, hla⟩ := ha.len_le
  obtain ⟨b, cb, rfl, hlb⟩ := hb.len_le
  have hb0 : Below w.heap.size w ((w.alloc (.cells CV 33)).alloc (.cells DV 33)) := ((Below.refl _ _).alloc (Nat.le_refl _) _).alloc (by simp) _
  have HHD := Lib.hid (heads_any _ (hL.below hb0))
  have HB0 := Lib.hid hb0
  clear hL ha hb hb0
  by_cases hlt : 8 < na
  · clear ho
    go_enter Tryd.func6, Tryd.ntmps6
    go_wp2_with (go_at_call 7; refine HHD.out.mono ?_; rintro e w' ⟨rfl, hb⟩)
    go_ret
    exact ⟨rfl, HB0.out.trans (hb.mono HB0.out.size)⟩
  · have h2 : nb < na := by omega
    clear ho
    go_enter Tryd.func6, Tryd.ntmps6
    go_wp2_with (go_at_call 7; refine HHD.out.mono ?_; rintro e w' ⟨rfl, hb⟩)
    go_ret
    exact ⟨rfl, HB0.out.trans (hb.mono HB0.out.size)⟩
end Go.Proofs.YtfaiblngchdpmaaDoor
