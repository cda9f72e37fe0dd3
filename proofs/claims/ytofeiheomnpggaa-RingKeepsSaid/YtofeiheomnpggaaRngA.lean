/- Where a ring's parts lie: isSize, Size, row, descs, partAt, availPart, usedPart, place; the document's right, first, second, Size. -/
import Derived.Test.YtofeiheomnpggaaRngP
import Derived.Test.YtofeiheomnpggaaMemF
import Derived.Laws.EntriesVeiled
namespace Go.Proofs.Ytofeiheomnpggaa
open Go.RowKit Go.Lib

theorem row_keep {w w' : World} {g : Nat} {o : Obj} (h : w.heap[g]? = some o) (hb : Below w.heap.size w w') : w'.heap[g]? = some o := (hb.block g (Array.getElem?_eq_some_iff.1 h).1).trans h

/-- A box of two cells. -/
theorem cells_two {X : World} {r : Nat} {a b : Value} {t : TypeId} (h : X.heap[r]? = some (.cells #[a, b] t (0, 0))) : X.cell? ⟨r, 0, none⟩ = some a ∧ X.cell? ⟨r, 1, none⟩ = some b ∧ X.frozen? ⟨r, 0, none⟩ = false ∧ X.frozen? ⟨r, 1, none⟩ = false := by
  refine ⟨?_, ?_, ?_, ?_⟩
  · unfold World.cell?; rw [h]; rfl
  · unfold World.cell?; rw [h]; rfl
  · unfold World.frozen?; rw [h]; simp
  · unfold World.frozen?; rw [h]; simp
theorem tne : (66 : Nat) ≠ 3 := by decide
/-- A block of another type stays while a box of two cells is written. -/
theorem row_put2 {X : World} {r g : Nat} {cs ds : Array Value} {s t : TypeId} {fr fs : Nat × Nat} {u v : Value} (h : X.heap[g]? = some (.cells cs s fr)) (hr : X.heap[r]? = some (.cells ds t fs)) (hne : (t : Nat) ≠ s) : ((X.setCell ⟨r, 0, none⟩ u).setCell ⟨r, 1, none⟩ v).heap[g]? = some (.cells cs s fr) := by
  have hgr : r ≠ g := by
    intro he
    subst he
    rw [h] at hr
    injection hr with hr
    injection hr with _ hr
    exact hne hr.symm
  exact one_other (one_other h ⟨r, 0, none⟩ u hgr) ⟨r, 1, none⟩ v hgr

theorem isSize_any (z : Int) (r : Bool) (hr : rightB z = r) (w : World) : Calls Try.prog 29 #[.int .i64 z] w fun e w' => e = .returned (.bool r) ∧ w' = w := by
  cases r with
  | true =>
    obtain ⟨N, rfl, hN⟩ := right_of hr
    clear hr
    rcases hN with rfl | rfl | rfl | rfl | rfl
    all_goals
      go_enter Try.func29, Try.ntmps29
      go_wp2
      go_ret
      exact ⟨rfl, rfl⟩
  | false =>
    have h := of_decide_eq_false hr
    have h1 : (z == 1) = false := by rw [beq_eq_false_iff_ne]; omega
    have h2 : (z == 2) = false := by rw [beq_eq_false_iff_ne]; omega
    have h4 : (z == 4) = false := by rw [beq_eq_false_iff_ne]; omega
    have h8 : (z == 8) = false := by rw [beq_eq_false_iff_ne]; omega
    have h16 : (z == 16) = false := by rw [beq_eq_false_iff_ne]; omega
    clear h hr
    go_enter Try.func29, Try.ntmps29
    go_wp2
    go_ret
    exact ⟨rfl, rfl⟩

theorem refRight_any (z : Int) (r : Bool) (hr : rightB z = r) (w : World) : Calls Try.prog 47 #[.int .i64 z] w fun e w' => e = .returned (.bool r) ∧ w' = w := by
  cases r with
  | true =>
    obtain ⟨N, rfl, hN⟩ := right_of hr
    clear hr
    rcases hN with rfl | rfl | rfl | rfl | rfl
    all_goals
      go_enter Try.func47, Try.ntmps47
      go_wp2
      go_ret
      exact ⟨rfl, rfl⟩
  | false =>
    have h := of_decide_eq_false hr
    have h1 : (z == 1) = false := by rw [beq_eq_false_iff_ne]; omega
    have h2 : (z == 2) = false := by rw [beq_eq_false_iff_ne]; omega
    have h4 : (z == 4) = false := by rw [beq_eq_false_iff_ne]; omega
    have h8 : (z == 8) = false := by rw [beq_eq_false_iff_ne]; omega
    have h16 : (z == 16) = false := by rw [beq_eq_false_iff_ne]; omega
    clear h hr
    go_enter Try.func47, Try.ntmps47
    go_wp2
    go_ret
    exact ⟨rfl, rfl⟩

/-- The boxes of a row: where it starts, and how great its things are. -/
def RowAt (w : World) (a b : Nat) (s k : Int) : Prop := w.heap[a]? = some (.cells #[.int .i64 s] 3 (0, 0)) ∧ w.heap[b]? = some (.cells #[.int .i64 k] 3 (0, 0))
theorem RowAt.below {w w' : World} {a b : Nat} {s k : Int} (h : RowAt w a b s k) (hb : Below w.heap.size w w') : RowAt w' a b s k := ⟨row_keep h.1 hb, row_keep h.2 hb⟩
/-- Two boxes, made one behind the other. -/
theorem two_new (w : World) (u v : Value) (s t : TypeId) : ((w.alloc (.cells #[u] s)).alloc (.cells #[v] t)).heap[w.heap.size]? = some (.cells #[u] s (0, 0)) ∧ ((w.alloc (.cells #[u] s)).alloc (.cells #[v] t)).heap[w.heap.size + 1]? = some (.cells #[v] t (0, 0)) ∧ Below w.heap.size w ((w.alloc (.cells #[u] s)).alloc (.cells #[v] t)) := by
  refine ⟨row_keep (heap_alloc_new w _) ((Below.refl _ _).alloc (Nat.le_refl _) _), by simpa using heap_alloc_new (w.alloc (.cells #[u] s)) (.cells #[v] t), ((Below.refl _ _).alloc (Nat.le_refl _) _).alloc (by simp) _⟩

theorem row_any (s k : Int) (w : World) : Calls Try.prog 55 #[.int .i64 s, .int .i64 k] w fun e w' => ∃ a b, e = .returned (.func (.func 64) #[] #[.pointer (some ⟨a, 0, none⟩), .pointer (some ⟨b, 0, none⟩)]) ∧ RowAt w' a b s k ∧ Below w.heap.size w w' := by
  obtain ⟨h1, h2, h3⟩ := two_new w (.int .i64 s) (.int .i64 k) 3 3
  have H1 := Lib.hid h1
  have H2 := Lib.hid h2
  have H3 := Lib.hid h3
  clear h1 h2 h3
  go_enter Try.func55, Try.ntmps55
  go_wp2
  go_ret
  exact ⟨_, _, rfl, ⟨H1.out, by simpa using H2.out⟩, H3.out⟩

theorem row1_any (a b : Nat) (s k z q t : Int) (hq : z * k = q) (ht : s + q = t) (hq1 : -9223372036854775808 ≤ q ∧ q ≤ 9223372036854775807) (ht1 : -9223372036854775808 ≤ t ∧ t ≤ 9223372036854775807) (w : World) (h : RowAt w a b s k) :
    Calls Try.prog 64 #[.int .i64 z, .pointer (some ⟨a, 0, none⟩), .pointer (some ⟨b, 0, none⟩)] w fun e w' => e = .returned (.int .i64 t) ∧ w' = w := by
  obtain ⟨c1, f1⟩ := one_cell h.1
  obtain ⟨c2, f2⟩ := one_cell h.2
  obtain ⟨q1, q2⟩ := hq1
  have w1 : IntKind.i64.wrap q = q := IntWalk.i64_in _ (by omega)
  have w2 : IntKind.i64.wrap t = t := IntWalk.i64_in _ (by omega)
  clear h f1 f2 q1 q2 ht1
  go_enter Try.func64, Try.ntmps64
  go_wp2
  go_ret
  exact ⟨rfl, rfl⟩

theorem descs_any (s : Int) (w : World) : Calls Try.prog 41 #[.int .i64 s] w fun e w' => ∃ a b, e = .returned (.func (.func 64) #[] #[.pointer (some ⟨a, 0, none⟩), .pointer (some ⟨b, 0, none⟩)]) ∧ RowAt w' a b s 16 ∧ Below w.heap.size w w' := by
  go_enter Try.func41, Try.ntmps41
  go_wp2_with fail
  refine (row_any _ _ _).mono ?_
  rintro e w1 ⟨a, b, rfl, hr, hb⟩
  have HR := Lib.hid hr
  have HB := Lib.hid hb
  clear hr hb
  go_wp2
  go_ret
  exact ⟨_, _, rfl, HR.out, HB.out⟩

theorem partAt_any (s k p q : Int) (hp : s + 2 = p) (hq : p + 2 = q) (h1 : 0 ≤ s) (h2 : s ≤ 1000000) (w : World) : Calls Try.prog 51 #[.int .i64 s, .int .i64 k] w fun e w' => ∃ a b, e = .returned (.agg #[.int .i64 p, .func (.func 64) #[] #[.pointer (some ⟨a, 0, none⟩), .pointer (some ⟨b, 0, none⟩)]]) ∧ RowAt w' a b q k ∧ Below w.heap.size w w' := by
  have wp : IntKind.i64.wrap p = p := IntWalk.i64_in _ (by omega)
  have wq : IntKind.i64.wrap q = q := IntWalk.i64_in _ (by omega)
  have HB0 := Lib.hid ((Below.refl w.heap.size w).alloc (Nat.le_refl _) (.cells #[.int .i64 0, .nilFunc] 66))
  clear h1 h2
  go_enter Try.func51, Try.ntmps51
  go_wp2_with fail
  refine (row_any _ _ _).mono ?_
  rintro e w1 ⟨a, b, rfl, hr, hb⟩
  have HR := Lib.hid hr
  have hrow := row_keep (heap_alloc_new w (.cells #[.int .i64 0, .nilFunc] 66)) hb
  obtain ⟨hc0, hc1, hz0, hz1⟩ := cells_two hrow
  have HB1 := Lib.hid (HB0.out.trans (hb.mono (by simp)))
  have HROW := Lib.hid hrow
  clear hr hb hrow
  go_wp2
  refine bodyPost_ret (v := .agg #[.int .i64 p, .func (.func 64) #[] #[.pointer (some ⟨a, 0, none⟩), .pointer (some ⟨b, 0, none⟩)]]) (by simp [results, Try.results51, go_sem, hc0, hc1]) rfl ⟨_, _, rfl, ?_, ?_⟩
  · exact ⟨row_put2 HR.out.1 HROW.out tne, row_put2 HR.out.2 HROW.out tne⟩
  · exact (HB1.out.setCell (by simp) _).setCell (by simp) _
theorem field_entry (x : Int) (a b : Nat) (W : World) : (Instr.field 66 (.agg #[.int .i64 x, .func (.func 64) #[] #[.pointer (some ⟨a, 0, none⟩), .pointer (some ⟨b, 0, none⟩)]]) 1).run Try.prog W = .ok (.func (.func 64) #[] #[.pointer (some ⟨a, 0, none⟩), .pointer (some ⟨b, 0, none⟩)]) W := by kernel_rfl
theorem field_index (x : Int) (a b : Nat) (W : World) : (Instr.field 66 (.agg #[.int .i64 x, .func (.func 64) #[] #[.pointer (some ⟨a, 0, none⟩), .pointer (some ⟨b, 0, none⟩)]]) 0).run Try.prog W = .ok (.int .i64 x) W := by kernel_rfl
end Go.Proofs.Ytofeiheomnpggaa
