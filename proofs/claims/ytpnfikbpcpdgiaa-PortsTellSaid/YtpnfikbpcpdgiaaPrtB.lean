/- What ports.same answers; what the functions that change bits do; what there is behind a call. -/
import Derived.Test.YtpnfikbpcpdgiaaPrtA
namespace Go.Proofs.Ytpnfikbpcpdgiaa
open Go.RowKit Go.Lib

theorem IsArg.shape3 {w : World} {v : Value} {l : List UInt8} (h : IsArg w v l) : ∃ a n c, v = .slice a n c ∧ n = l.length := by
  obtain ⟨a, c, rfl⟩ := h.1.shape
  exact ⟨a, _, c, rfl, rfl⟩
theorem arg_len {w : World} {v : Value} {l : List UInt8} (h : IsArg w v l) : l.length ≤ maxLen := by
  rcases h.1 with ⟨_, _, _, rfl⟩ | ⟨b, off, cap, _, h2, h3, _⟩
  · exact Nat.zero_le _
  · exact Nat.le_trans h2 h3
/-- A box of another type is written: rows of bytes stay. -/
theorem owns_far {X : World} {B : Nat} {v : Value} {n : Nat} {xs : List Value} {r j : Nat} {cs : Array Value} {fr : Nat × Nat} (h : X.ownsRow B 5 1 v n xs) (hr : X.heap[r]? = some (.cells cs 26 fr)) (x : Value) : (X.setCell ⟨r, j, none⟩ x).ownsRow B 5 1 v n xs :=
  owns_keep h fun k cur _ hc => by
    have hne : k ≠ r := fun e => by
      subst e
      rw [hc] at hr
      injection hr with hr
      injection hr with _ hr _
      exact absurd hr (by decide)
    rw [Below.heap_setCell _ _ _ _ hne]
    exact hc
/-- What a box becomes. -/
theorem put_one {X : World} {r j : Nat} {cs : Array Value} {t : TypeId} (h : X.heap[r]? = some (.cells cs t (0, 0))) (x : Value) : (X.setCell ⟨r, j, none⟩ x).heap[r]? = some (.cells (cs.setIfInBounds j x) t (0, 0)) := heap_setCell_same X r j _ _ x h
/-- Four cells of one box. -/
def put4 (X : World) (r : Nat) (a b c d : Value) : World := (((X.setCell ⟨r, 0, none⟩ a).setCell ⟨r, 1, none⟩ b).setCell ⟨r, 2, none⟩ c).setCell ⟨r, 3, none⟩ d
theorem put4_row {X : World} {r : Nat} {a b c d a' b' c' d' : Value} {t : TypeId} (h : X.heap[r]? = some (.cells #[a', b', c', d'] t (0, 0))) : (put4 X r a b c d).heap[r]? = some (.cells #[a, b, c, d] t (0, 0)) :=
  put_one (put_one (put_one (put_one h a) b) c) d
theorem put4_owns {X : World} {r B : Nat} {a b c d a' b' c' d' : Value} {v : Value} {n : Nat} {xs : List Value} (h : X.ownsRow B 5 1 v n xs) (hr : X.heap[r]? = some (.cells #[a', b', c', d'] 26 (0, 0))) : (put4 X r a b c d).ownsRow B 5 1 v n xs :=
  owns_far (owns_far (owns_far (owns_far h hr a) (put_one hr a) b) (put_one (put_one hr a) b) c) (put_one (put_one (put_one hr a) b) c) d
theorem put4_below {B : Nat} {w X : World} {r : Nat} {a b c d : Value} (h : Below B w X) (hr : B ≤ r) : Below B w (put4 X r a b c d) :=
  (((h.setCell hr _).setCell hr _).setCell hr _).setCell hr _
theorem put4_far {X : World} {r g : Nat} {a b c d : Value} {o : Obj} (h : X.heap[g]? = some o) (hne : g ≠ r) : (put4 X r a b c d).heap[g]? = some o :=
  row_far (row_far (row_far (row_far h _ _ hne) _ _ hne) _ _ hne) _ _ hne
theorem put4_size {X : World} {r : Nat} {a b c d : Value} : (put4 X r a b c d).heap.size = X.heap.size := by simp [put4, World.setCell]

/-- What is answered: ports, whose pool is the call's own, and a number. -/
def Gave (w : World) (L M T : Nat) (l : List UInt8) (F : Int) (e : Ending) (w' : World) : Prop :=
  ∃ r, e = .returned (.tuple #[.agg #[.int .u32 (L : Nat), .int .u32 (M : Nat), .int .u64 (T : Nat), r], .int .i64 F]) ∧ w'.ownsRow w.heap.size 5 1 r l.length (byteCells l) ∧ Below w.heap.size w w'

set_option maxHeartbeats 2000000 in
theorem same_any (L M T : Nat) (v : Value) (l : List UInt8) (w : World) (hv : IsArg w v l) (hl : l.length ≤ 140737488355328) :
    Calls Try.prog 33 #[.agg #[.int .u32 (L : Nat), .int .u32 (M : Nat), .int .u64 (T : Nat), v]] w fun e w' => ∃ r, e = .returned (.agg #[.int .u32 (L : Nat), .int .u32 (M : Nat), .int .u64 (T : Nat), r]) ∧ w'.ownsRow w.heap.size 5 1 r l.length (byteCells l) ∧ Below w.heap.size w w' := by
  have HV := Lib.hid hv
  have HB := Lib.hid (((Below.refl w.heap.size w).alloc (Nat.le_refl _) (.cells #[.int .u32 (L : Nat), .int .u32 (M : Nat), .int .u64 (T : Nat), v] 26)).alloc (by simp) (.cells #[.int .u32 0, .int .u32 0, .int .u64 0, .slice none 0 0] 26))
  obtain ⟨a, n, c, rfl, hn⟩ := hv.shape3
  clear hv hn
  go_enter Try.func33, Try.ntmps33
  go_wp2_with fail
  refine (clone_any _ _ _ (HV.out.below HB.out) hl).mono ?_
  rintro e w1 ⟨r, rfl, hr, hb⟩
  have HB1 := Lib.hid (HB.out.trans (hb.mono (by simp; omega)))
  obtain ⟨hrow, hrow1, hlt⟩ := boxes_rows hb
  have HR := Lib.hid (ownsRow_base (base' := w.heap.size) hr (by simp; omega))
  obtain ⟨ra, rn, rc, rfl, hrn⟩ := (isArg_of_owns hr).shape3
  have HW0 := Lib.hid hrow
  have HW1 := Lib.hid hrow1
  obtain ⟨c0, c1, c2, c3⟩ := four hrow
  obtain ⟨d0, d1, d2, d3⟩ := four hrow1
  obtain ⟨f0, f1, f2, f3⟩ := free4 hrow
  obtain ⟨g0, g1, g2, g3⟩ := free4 hrow1
  clear hr hb hrow hrow1 hrn
  go_wp2
  refine bodyPost_ret (v := .agg #[.int .u32 (L : Nat), .int .u32 (M : Nat), .int .u64 (T : Nat), .slice ra rn rc]) (by simp [results, Try.results33, go_sem, d0, d1, d2, d3]) rfl ⟨_, rfl, ?_, ?_⟩
  · exact put4_owns (owns_far HR.out HW0.out _) (row_far HW1.out _ _ (by simp))
  · exact put4_below (HB1.out.setCell (by simp) _) (by simp)

set_option maxHeartbeats 2000000 in
theorem raiseBit (L M T : Nat) (v : Value) (k : Nat) (hL : L < 4294967296) (hk : k ≤ 31) (m : Nat) (hm : setB L k = m) (b : Nat) (hb : b = 2 ^ k) (g : Nat) (w : World) (hg : w.heap[g]? = some (.cells #[.int .u32 (L : Nat), .int .u32 (M : Nat), .int .u64 (T : Nat), v] 26 (0, 0))) :
    Calls Try.prog 28 #[.pointer (some ⟨g, 0, none⟩), .int .u32 (b : Nat)] w fun e w' => e = .returned (.tuple #[]) ∧ w'.heap[g]? = some (.cells #[.int .u32 (m : Nat), .int .u32 (M : Nat), .int .u64 (T : Nat), v] 26 (0, 0)) ∧ Below g w w' := by
  have h1 : bits BinOp.or IntKind.u32 (L : Int) ((2 ^ k : Nat) : Int) = (m : Int) := by rw [← hm]; exact u32_or_nat L (2 ^ k) hL (pow_lt32 hk)
  rw [← hb] at h1
  obtain ⟨c0, c1, c2, c3⟩ := four hg
  obtain ⟨f0, f1, f2, f3⟩ := free4 hg
  have HG := Lib.hid hg
  clear hb hg hm
  go_enter Try.func28, Try.ntmps28
  go_wp2
  refine bodyPost_end (v := .tuple #[]) (by simp [results, Try.results28, go_sem]) rfl ?_
  exact ⟨rfl, put_one HG.out _, (Below.refl g w).setCell (Nat.le_refl g) _⟩

set_option maxHeartbeats 2000000 in
theorem doneBit (L M T : Nat) (v : Value) (k : Nat) (hL : L < 4294967296) (hk : k ≤ 31) (m : Nat) (hm : clrB L k = m) (b : Nat) (hb : b = 2 ^ k) (g : Nat) (w : World) (hg : w.heap[g]? = some (.cells #[.int .u32 (L : Nat), .int .u32 (M : Nat), .int .u64 (T : Nat), v] 26 (0, 0))) :
    Calls Try.prog 27 #[.pointer (some ⟨g, 0, none⟩), .int .u32 (b : Nat)] w fun e w' => e = .returned (.tuple #[]) ∧ w'.heap[g]? = some (.cells #[.int .u32 (m : Nat), .int .u32 (M : Nat), .int .u64 (T : Nat), v] 26 (0, 0)) ∧ Below g w w' := by
  have h1 : bits BinOp.andNot IntKind.u32 (L : Int) ((2 ^ k : Nat) : Int) = (m : Int) := by rw [← hm]; exact u32_andNot_nat L (2 ^ k) hL (pow_lt32 hk)
  rw [← hb] at h1
  obtain ⟨c0, c1, c2, c3⟩ := four hg
  obtain ⟨f0, f1, f2, f3⟩ := free4 hg
  have HG := Lib.hid hg
  clear hb hg hm
  go_enter Try.func27, Try.ntmps27
  go_wp2
  refine bodyPost_end (v := .tuple #[]) (by simp [results, Try.results27, go_sem]) rfl ?_
  exact ⟨rfl, put_one HG.out _, (Below.refl g w).setCell (Nat.le_refl g) _⟩

set_option maxHeartbeats 2000000 in
theorem hearBit (L M T : Nat) (v : Value) (k : Nat) (hM : M < 4294967296) (hk : k ≤ 31) (on : Bool) (m : Nat) (hm : (if on = true then setB M k else clrB M k) = m) (b : Nat) (hb : b = 2 ^ k) (g q : Nat) (w : World) (hg : w.heap[g]? = some (.cells #[.int .u32 (L : Nat), .int .u32 (M : Nat), .int .u64 (T : Nat), v] 26 (0, 0))) (hq : w.heap[q]? = some (.cells #[.bool on] 4 (0, 0))) :
    Calls Try.prog 31 #[.pointer (some ⟨g, 0, none⟩), .int .u32 (b : Nat), .pointer (some ⟨q, 0, none⟩)] w fun e w' => e = .returned (.tuple #[]) ∧ w'.heap[g]? = some (.cells #[.int .u32 (L : Nat), .int .u32 (m : Nat), .int .u64 (T : Nat), v] 26 (0, 0)) ∧ Below g w w' := by
  obtain ⟨m1, hm1⟩ : ∃ x, x = clrB M k := ⟨_, rfl⟩
  have h1 : bits BinOp.andNot IntKind.u32 (M : Int) ((2 ^ k : Nat) : Int) = (m1 : Int) := by rw [hm1]; exact u32_andNot_nat M (2 ^ k) hM (pow_lt32 hk)
  have h2 : on = true → bits BinOp.or IntKind.u32 (m1 : Int) ((2 ^ k : Nat) : Int) = (m : Int) := fun h => by
    rw [← hm, if_pos h, ← set_clr hk hM, hm1]
    exact u32_or_nat _ (2 ^ k) (clrB_lt hM) (pow_lt32 hk)
  have h3 : on = false → m = m1 := fun h => by rw [← hm, if_neg (by rw [h]; decide), hm1]
  rw [← hb] at h1 h2
  have hqg : q ≠ g := fun e => by
    rw [e, hg] at hq
    injection hq with hq
    injection hq with _ hq _
    exact absurd hq (by decide)
  have hgq : g ≠ q := fun e => hqg e.symm
  obtain ⟨c0, c1, c2, c3⟩ := four hg
  obtain ⟨f0, f1, f2, f3⟩ := free4 hg
  have hq1 : w.cell? ⟨q, 0, none⟩ = some (.bool on) := by unfold World.cell?; rw [hq]; rfl
  have HG := Lib.hid hg
  clear hg hq hb hm hm1
  cases on with
  | true =>
    have h4 := h2 rfl
    clear h2 h3
    go_enter Try.func31, Try.ntmps31
    go_wp2
    refine bodyPost_end (v := .tuple #[]) (by simp [results, Try.results31, go_sem]) rfl ?_
    first
      | exact ⟨rfl, put_one (put_one HG.out _) _, ((Below.refl g w).setCell (Nat.le_refl g) _).setCell (Nat.le_refl g) _⟩
      | exact ⟨rfl, put_one HG.out _, (Below.refl g w).setCell (Nat.le_refl g) _⟩
  | false =>
    obtain rfl := h3 rfl
    clear h2 h3
    go_enter Try.func31, Try.ntmps31
    go_wp2
    refine bodyPost_end (v := .tuple #[]) (by simp [results, Try.results31, go_sem]) rfl ?_
    exact ⟨rfl, put_one HG.out _, (Below.refl g w).setCell (Nat.le_refl g) _⟩
end Go.Proofs.Ytpnfikbpcpdgiaa
