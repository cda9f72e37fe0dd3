/- What bytes.Clone answers: a row of the call's own; what was there stays. -/
import Derived.Test.YtpnfikbpcpdgiaaArg
import Derived.Test.YtpnfikbpcpdgiaaOwn
import Derived.WalkSpells
namespace Go.Proofs.Ytpnfikbpcpdgiaa
open Go.RowKit Go.Lib

set_option maxHeartbeats 1000000 in
theorem clone_any (v : Value) (l : List UInt8) (w : World) (hv : IsArg w v l) (hl : l.length ≤ 140737488355328) :
    Calls Try.prog 37 #[v] w fun e w' => ∃ r, e = .returned r ∧ w'.ownsRow w.heap.size 5 1 r l.length (byteCells l) ∧ Below w.heap.size w w' := by
  have hq : ∀ (w : World) (a : Option Addr) (n c n' c' : Nat), (binOp .eql 24 (.slice a n c) (.slice none n' c')).run Try.prog w = .ok (.bool a.isNone) w := fun w a n c n' c' => Lib.run_eql_slice_nil w _ _ a n c n' c' Try.underlying24
  rcases hv.2 with ⟨rfl, rfl⟩ | ⟨ad, c, rfl, hcell⟩
  · go_enter Try.func37, Try.ntmps37
    go_wp2
    go_ret
    exact ⟨_, rfl, World.ownsRow_nil w w.heap.size 5 1, Below.refl _ _⟩
  · obtain ⟨i0, hi, hz0, hz1, hz2⟩ := info_parts info8
    have hb : Below w.heap.size w (w.alloc (.cells #[] 5)) := (Below.refl _ _).alloc (Nat.le_refl _) _
    have HA := Lib.hid (hv.below hb).2
    have hown : (w.alloc (.cells #[] 5)).ownsRow w.heap.size 5 1 (.slice (some ⟨w.heap.size, 0, none⟩) 0 0) 0 [] := owns_empty (heap_alloc_new w _) (by decide) rfl _ (Nat.le_refl _)
    have HO := Lib.hid hown
    have HC := Lib.hid hcell
    clear hcell hown
    go_enter Try.func37, Try.ntmps37
    go_wp2_with (at_builtin; refine wpList_append_isArg _ rfl _ _ 24 rfl w.heap.size 5 i0 (.int .u8 0) Try.underlying24 hi hz0 hz1 hz2 rfl _ _ _ rfl HO.out _ l rfl HA.out ?c2 ?c3 ?_)
    case c2 => omega
    case c3 => simp
    intro v' w1 hown1 hgrow
    have HG := Lib.hid (hb.grown hgrow (by simp) (fun k hk => (HO.out.lt k hk).1))
    go_wp2
    go_ret
    exact ⟨_, rfl, hown1, HG.out⟩
end Go.Proofs.Ytpnfikbpcpdgiaa
