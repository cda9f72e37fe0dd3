/- What the two methods 'place' return: the place of a byte, in either order; beside it one empty block is laid. -/
import Derived.Test.YtddimcicajlbgaaDoorRows
import Derived.WalkKit
import Derived.WalkSpells
import Derived.WalkLawsBesides
namespace Go.Proofs.YtddimcicajlbgaaDoor
open Go.RowKit

set_option maxHeartbeats 400000 in
theorem place_lo (i n : Int) (w : World) :
    Calls Tryd.prog 70 #[.agg #[], .int .i64 i, .int .i64 n] w fun e w' => e = .returned (.int .i64 i) ∧ w' = w.alloc (.cells #[] 40) := by
  go_enter Tryd.func70, Tryd.ntmps70
  go_wp2
  go_ret
  exact ⟨rfl, rfl⟩

set_option maxHeartbeats 400000 in
theorem place_hi (i n : Int) (h0 : 0 ≤ i) (h1 : i < n) (h2 : n ≤ 8) (w : World) :
    Calls Tryd.prog 71 #[.agg #[], .int .i64 i, .int .i64 n] w fun e w' => e = .returned (.int .i64 (n - 1 - i)) ∧ w' = w.alloc (.cells #[] 42) := by
  go_enter Tryd.func71, Tryd.ntmps71
  go_wp2
  go_ret
  exact ⟨rfl, rfl⟩
end Go.Proofs.YtddimcicajlbgaaDoor
