/- slices.Concat of two slices of bytes. -/
import Derived.Test.YtofeiheomnpggaaGrow
import Derived.Test.YtofeiheomnpggaaArg
namespace Go.Proofs.Ytofeiheomnpggaa
open Go.RowKit Go.Lib

theorem two_cells (w : World) (u v : Value) (t : TypeId) : (w.alloc (.cells #[u, v] t)).cell? ⟨w.heap.size, 0, none⟩ = some u ∧ (w.alloc (.cells #[u, v] t)).cell? ⟨w.heap.size, 1, none⟩ = some v := by
  have h := heap_alloc_new w (.cells #[u, v] t)
  constructor <;> (unfold World.cell?; rw [h]; rfl)

/-- slices.Concat of two. -/
theorem concat_two {w : World} {u v : Value} {k m : List UInt8} (hu : IsArg w u k) (hv : IsArg w v m) (hlen : (k ++ m).length ≤ 140737488355328) :
    Calls Try.prog 75 #[.slice (some ⟨w.heap.size, 0, none⟩) 2 2] (w.alloc (.cells #[u, v] 26)) fun e w' => ∃ r, e = .returned r ∧ w'.ownsRow w.heap.size 5 1 r (k.length + m.length) (byteCells (k ++ m)) ∧ Below w.heap.size w w' := by
  have hb : Below w.heap.size w (w.alloc (.cells #[u, v] 26)) := (Below.refl _ _).alloc (Nat.le_refl _) _
  have hc := two_cells w u v 26
  have hj : joined [(u, k), (v, m)] 2 = k ++ m := by simp [joined]
  have h := concat_any w.heap.size 2 [(u, k), (v, m)] rfl (by decide) (w.alloc (.cells #[u, v] 26)) (fun j hj => by
    match j, hj with
    | 0, _ => exact ⟨hc.1, hu.below hb⟩
    | 1, _ => exact ⟨hc.2, hv.below hb⟩) (by rw [show [(u, k), (v, m)].length = 2 from rfl, hj]; exact hlen)
  rw [show [(u, k), (v, m)].length = 2 from rfl, hj, List.length_append] at h
  exact h.mono fun e w' ⟨r, he, ho, hb'⟩ => ⟨r, he, ownsRow_base ho hb.size, hb.trans (hb'.mono hb.size)⟩
/-- .. of three. -/
theorem concat_three {w : World} {g : Nat} {u v x : Value} {k m q : List UInt8} (c0 : w.cell? ⟨g, 0, none⟩ = some u) (c1 : w.cell? ⟨g, 1, none⟩ = some v) (c2 : w.cell? ⟨g, 2, none⟩ = some x) (hu : IsArg w u k) (hv : IsArg w v m) (hx : IsArg w x q) (hlen : (k ++ m ++ q).length ≤ 140737488355328) :
    Calls Try.prog 75 #[.slice (some ⟨g, 0, none⟩) 3 3] w fun e w' => ∃ r, e = .returned r ∧ w'.ownsRow w.heap.size 5 1 r (k ++ m ++ q).length (byteCells (k ++ m ++ q)) ∧ Below w.heap.size w w' := by
  have hj : joined [(u, k), (v, m), (x, q)] 3 = k ++ m ++ q := by simp [joined]
  have h := concat_any g 3 [(u, k), (v, m), (x, q)] rfl (by decide) w (fun j hj => by
    match j, hj with
    | 0, _ => exact ⟨c0, hu⟩
    | 1, _ => exact ⟨c1, hv⟩
    | 2, _ => exact ⟨c2, hx⟩) (by rw [show [(u, k), (v, m), (x, q)].length = 3 from rfl, hj]; exact hlen)
  rw [show [(u, k), (v, m), (x, q)].length = 3 from rfl, hj] at h
  exact h
end Go.Proofs.Ytofeiheomnpggaa
