/- Numbers put one behind the other, by a function that is made for a place. -/
import Derived.Test.YtofeiheomnpggaaRngD
namespace Go.Proofs.Ytofeiheomnpggaa
open Go.RowKit Go.Lib

/-- The boxes of a function that puts numbers: where memory lies, and the place. -/
def PutAt (w : World) (a b gm : Nat) (p : Nat) : Prop := w.heap[a]? = some (.cells #[.pointer (some ⟨gm, 0, none⟩)] 81 (0, 0)) ∧ w.heap[b]? = some (.cells #[.int .i64 (p : Nat)] 3 (0, 0))
theorem PutAt.below {w w' : World} {a b gm : Nat} {p : Nat} (h : PutAt w a b gm p) (hb : Below w.heap.size w w') : PutAt w' a b gm p := ⟨row_keep h.1 hb, row_keep h.2 hb⟩
/-- Two blocks alone may have turned. -/
def Save2 (w w' : World) (g b : Nat) : Prop := ∃ x y, Below w.heap.size ((w.setCell ⟨g, 0, none⟩ x).setCell ⟨b, 0, none⟩ y) w'
theorem Save2.below {B g b : Nat} {w0 w w' : World} (h : Save2 w w' g b) (h0 : Below B w0 w) (hg : B ≤ g) (hb : B ≤ b) (hs : B ≤ w.heap.size) : Below B w0 w' := by
  obtain ⟨x, y, hy⟩ := h
  exact ((h0.setCell hg x).setCell hb y).trans (hy.mono hs)
theorem Save2.row {b g k : Nat} {w w' : World} {o : Obj} (h : Save2 w w' g b) (hk : w.heap[k]? = some o) (hg : k ≠ g) (hb : k ≠ b) : w'.heap[k]? = some o := by
  obtain ⟨x, y, hy⟩ := h
  rw [hy.block k (Array.getElem?_eq_some_iff.1 hk).1]
  exact one_other (one_other hk _ _ (by simpa using fun e => hg e.symm)) _ _ (by simpa using fun e => hb e.symm)
theorem Save2.size {g b : Nat} {w w' : World} (h : Save2 w w' g b) : w.heap.size ≤ w'.heap.size := by
  obtain ⟨x, y, hy⟩ := h
  have := hy.size
  rwa [set_size, set_size] at this
theorem owns_far {X : World} {B g : Nat} {v : Value} {n : Nat} {xs : List Value} {cs : Array Value} {s : TypeId} {fr : Nat × Nat} (h : X.ownsRow B 5 1 v n xs) (hg : X.heap[g]? = some (.cells cs s fr)) (hne : (s : Nat) ≠ 5) (y : Value) : (X.setCell ⟨g, 0, none⟩ y).ownsRow B 5 1 v n xs := by
  refine ⟨h.1, ?_⟩
  rcases h.2 with h2 | ⟨k, cap, cur, hv, hk, hh, r⟩
  · exact .inl h2
  · exact .inr ⟨k, cap, cur, hv, hk, one_other hh _ _ (by simpa using blocks_ne hh hg hne), r⟩
theorem Given.far {X : World} {B g : Nat} {v r : Value} {l G : List UInt8} {cs : Array Value} {s : TypeId} {fr : Nat × Nat} (h : Given X B v l r G) (hg : X.heap[g]? = some (.cells cs s fr)) (hne : (s : Nat) ≠ 5) (y : Value) : Given (X.setCell ⟨g, 0, none⟩ y) B v l r G := by
  rcases h with h | h
  · exact .inl h
  · exact .inr (owns_far h hg hne y)
/-- What was given, and turned once more. -/
theorem Given.step {w w' : World} {B C : Nat} {v r r' : Value} {l G H : List UInt8} (h : Given w B v l r G) (h2 : Given w' C r G r' H) (hC : B ≤ C) (hk : Given w B v l r G → Given w' B v l r G) : Given w' B v l r' H := by
  rcases h2 with ⟨rfl, rfl⟩ | h2
  · exact hk h
  · exact .inr (ownsRow_base h2 hC)
/-- What is given stays, when boxes of other types turn. -/
theorem Save2.given {B g b : Nat} {w w' : World} {v r : Value} {l G : List UInt8} {cs ds : Array Value} {s t : TypeId} {fr fs : Nat × Nat} (h : Save2 w w' g b) (hg : w.heap[g]? = some (.cells cs s fr)) (hb : w.heap[b]? = some (.cells ds t fs)) (hs : (s : Nat) ≠ 5) (ht : (t : Nat) ≠ 5) (hv : Given w B v l r G) : Given w' B v l r G := by
  rcases hv with hv | hv
  · exact .inl hv
  · refine .inr ⟨hv.1, ?_⟩
    rcases hv.2 with h2 | ⟨k, cap, cur, e1, e2, hh, e3⟩
    · exact .inl h2
    · exact .inr ⟨k, cap, cur, e1, e2, h.row hh (fun e => blocks_ne hh hg hs e.symm) (fun e => blocks_ne hh hb ht e.symm), e3⟩

theorem putter_any (gm p : Nat) (w : World) : Calls Try.prog 43 #[.pointer (some ⟨gm, 0, none⟩), .int .i64 (p : Nat)] w fun e w' => ∃ a b, e = .returned (.func (.func 57) #[] #[.pointer (some ⟨a, 0, none⟩), .pointer (some ⟨b, 0, none⟩)]) ∧ PutAt w' a b gm p ∧ w.heap.size ≤ a ∧ w.heap.size ≤ b ∧ Below w.heap.size w w' := by
  obtain ⟨h1, h2, h3⟩ := two_new w (.pointer (some ⟨gm, 0, none⟩)) (.int .i64 (p : Nat)) 81 3
  have H1 := Lib.hid h1
  have H2 := Lib.hid h2
  have H3 := Lib.hid h3
  clear h1 h2 h3
  go_enter Try.func43, Try.ntmps43
  go_wp2
  go_ret
  exact ⟨_, _, rfl, ⟨H1.out, by simpa using H2.out⟩, Nat.le_refl _, by simp, H3.out⟩

theorem kept {w w' : World} {a : Addr} {v : Value} (h : w.cell? a = some v) (hb : Below w.heap.size w w') : w'.cell? a = some v := by
  rw [hb.cell (World.block_lt_of_cell? _ _ h)]; exact h
theorem tuple_two {x y u v : Value} (h : Value.tuple #[x, u] = .tuple #[y, v]) : x = y ∧ u = v := by
  injection h with h
  injection h with h
  injection h with h1 h
  injection h with h2 _
  exact ⟨h1, h2⟩
/-- *m, _ = mem.PutNum(*m, at, size, n): whatever the order. -/
structure QSt (w : World) (a b gm p : Nat) (r : Value) (G H : List UInt8) (b3 b7 b8 b9 b12 : Bool) (s14 s15 : Value) (W : World) : Prop where
  out : b12 = false → Below w.heap.size w W
  size : w.heap.size ≤ W.heap.size
  pa : PutAt W a b gm p
  rm : b12 = false → W.heap[gm]? = some (.cells #[r] 28 (0, 0))
  o1 : b7 = true → b3 = true
  o3 : b8 = true → b7 = true
  o4 : b9 = true → b8 = true
  o8 : b12 = true → b9 = true
  p4 : b9 = true → ∃ v, s14 = .tuple #[s15, v]
  g2 : b7 = true → ∃ ra rc, s14 = .tuple #[.agg #[.slice ra G.length rc], .int .i64 0] ∧ Given W w.heap.size r G (.slice ra G.length rc) H
  g7 : b12 = true → ∃ ra rc, W.heap[gm]? = some (.cells #[.slice ra G.length rc] 28 (0, 0)) ∧ Given W w.heap.size r G (.slice ra G.length rc) H ∧ Below w.heap.size (w.setCell ⟨gm, 0, none⟩ (.slice ra G.length rc)) W
section
variable {w W W1 : World} {a b gm p : Nat} {r : Value} {G H : List UInt8} {b3 b7 b8 b9 b12 : Bool} {s14 s15 : Value}
theorem QSt.start (hb : Below w.heap.size w W) (pa : PutAt w a b gm p) (rm : w.heap[gm]? = some (.cells #[r] 28 (0, 0))) : QSt w a b gm p r G H false false false false false s14 s15 W :=
  { out := fun _ => hb, size := hb.size, pa := pa.below hb, rm := fun _ => row_keep rm hb, o1 := (fun e => by cases e), o3 := (fun e => by cases e), o4 := (fun e => by cases e), o8 := (fun e => by cases e), p4 := (fun e => by cases e), g2 := (fun e => by cases e), g7 := (fun e => by cases e) }
theorem QSt.before (h : QSt w a b gm p r G H b3 b7 b8 b9 b12 s14 s15 W) (h3 : b3 = false ∨ b7 = false) : b12 = false := by
  cases b12 with
  | false => rfl
  | true =>
    have e7 := h.o3 (h.o4 (h.o8 rfl))
    rcases h3 with h3 | h3
    · rw [h3] at h; exact absurd (h.o1 e7) (by decide)
    · rw [h3] at e7; cases e7
theorem QSt.one (h : QSt w a b gm p r G H b3 b7 b8 b9 b12 s14 s15 W) : QSt w a b gm p r G H true b7 b8 b9 b12 s14 s15 W := { h with o1 := fun _ => rfl }
theorem QSt.two {ra : Option Addr} {rc : Nat} (h : QSt w a b gm p r G H true false b8 b9 false s14 s15 W) (hb : Below W.heap.size W W1) (hr : Given W1 w.heap.size r G (.slice ra G.length rc) H) : QSt w a b gm p r G H true true b8 b9 false (.tuple #[.agg #[.slice ra G.length rc], .int .i64 0]) s15 W1 where
  out := fun e => (h.out e).trans (hb.mono (h.out e).size)
  size := Nat.le_trans h.size hb.size
  pa := h.pa.below hb
  rm := fun e => row_keep (h.rm e) hb
  o1 := fun _ => rfl
  o3 := fun _ => rfl
  o4 := h.o4
  o8 := h.o8
  p4 := (fun e => absurd (h.o3 (h.o4 e)) (by decide))
  g2 := fun _ => ⟨ra, rc, rfl, hr⟩
  g7 := (fun e => by cases e)
theorem QSt.three (h : QSt w a b gm p r G H b3 true b8 b9 b12 s14 s15 W) : QSt w a b gm p r G H b3 true true b9 b12 s14 s15 W := { h with o3 := fun _ => rfl, o4 := fun _ => rfl }
theorem QSt.four {x v : Value} (h : QSt w a b gm p r G H b3 b7 true b9 b12 (.tuple #[x, v]) s15 W) : QSt w a b gm p r G H b3 b7 true true b12 (.tuple #[x, v]) x W := { h with o4 := fun _ => rfl, o8 := fun _ => rfl, p4 := fun _ => ⟨v, rfl⟩ }
theorem QSt.seven {ra : Option Addr} {rc : Nat} (h : QSt w a b gm p r G H b3 true true true false s14 (.agg #[.slice ra G.length rc]) W) (hr : Given W w.heap.size r G (.slice ra G.length rc) H) : QSt w a b gm p r G H b3 true true true true s14 (.agg #[.slice ra G.length rc]) (W.setCell ⟨gm, 0, none⟩ (.slice ra G.length rc)) where
  out := (fun e => by cases e)
  size := by rw [set_size]; exact h.size
  pa := ⟨one_other h.pa.1 _ _ (by simpa using blocks_ne h.pa.1 (h.rm rfl) tnePM.symm), one_other h.pa.2 _ _ (by simpa using blocks_ne h.pa.2 (h.rm rfl) tneMI)⟩
  rm := (fun e => by cases e)
  o1 := h.o1
  o3 := fun _ => rfl
  o4 := fun _ => rfl
  o8 := fun _ => rfl
  p4 := h.p4
  g2 := fun e => by obtain ⟨q, c, e1, e2⟩ := h.g2 e; exact ⟨q, c, e1, e2.far (h.rm rfl) tneMU _⟩
  g7 := fun _ => ⟨ra, rc, one_set (h.rm rfl) _, hr.far (h.rm rfl) tneMU _, below_set (h.out rfl) gm _⟩
end
structure RngPutX where
  b0 : Bool
  b1 : Bool
  b2 : Bool
  b3 : Bool
  b4 : Bool
  b5 : Bool
  b6 : Bool
  b7 : Bool
  b8 : Bool
  b9 : Bool
  b10 : Bool
  b11 : Bool
  b12 : Bool
  s7 : Value
  s8 : Value
  s9 : Value
  s10 : Value
  s11 : Value
  s12 : Value
  s13 : Value
  s14 : Value
  s6 : Value
  s15 : Value
  s16 : Value
  s17 : Value

set_option maxHeartbeats 4000000 in
set_option maxRecDepth 100000 in
theorem put_num (a b gm : Nat) (r : Value) (G : List UInt8) (p k q y : Nat) (hq : p + k = q) (hL : G.length ≤ 8192) (h : p + k ≤ G.length) (h1 : 1 ≤ k) (h8 : k ≤ 8) (w : World) (hr : IsArg w r G) (hm : w.heap[gm]? = some (.cells #[r] 28 (0, 0))) (hp : PutAt w a b gm p) :
    Calls Try.prog 57 #[.int .i64 (k : Nat), .int .u64 (y : Nat), .pointer (some ⟨a, 0, none⟩), .pointer (some ⟨b, 0, none⟩)] w fun e w' => e = .returned (.tuple #[]) ∧ ∃ ra rc, w'.heap[gm]? = some (.cells #[.slice ra G.length rc] 28 (0, 0)) ∧ PutAt w' a b gm q ∧ Given w' w.heap.size r G (.slice ra G.length rc) (putAt G p k y) ∧ Save2 w w' gm b := by
  obtain ⟨H, hH⟩ : ∃ H, H = putAt G p k y := ⟨_, rfl⟩
  rw [← hH]
  obtain ⟨va, vc, rfl, _⟩ := hr.shape
  have HPN := Lib.hid (show ∀ W, Below w.heap.size w W → Calls Try.prog 58 #[.agg #[.slice va G.length vc], .int .i64 (p : Nat), .int .i64 (k : Nat), .int .u64 (y : Nat)] W fun e w' => ∃ ra rc, e = .returned (.tuple #[.agg #[.slice ra G.length rc], .int .i64 0]) ∧ Given w' w.heap.size (.slice va G.length vc) G (.slice ra G.length rc) H ∧ Below W.heap.size W w' from
    fun W hb => (putNum_at y hL h h1 h8 W (hr.below hb)).mono fun e w' ⟨s, g1, g2, g3⟩ => by
      rw [← hH] at g2
      have h5 : H.length = G.length := by rw [hH]; exact putAt_length y h
      obtain ⟨ra, rc, hs, _⟩ := (g2.arg (hr.below hb) g3).shape
      rw [h5] at hs
      subst hs
      exact ⟨ra, rc, g1, g2.base hb.size, g3⟩)
  have hpq : (p : Int) + (k : Nat) = (q : Nat) := by omega
  have hq1 : q ≤ 8192 := by omega
  have HM := Lib.hid hm
  have HP := Lib.hid hp
  clear hH hq hL h h1 h8 hr hm hp
  go_enter Try.func57, Try.ntmps57
  go_wp2_with fail
  refine wp_region_rec (X := RngPutX) (by kernel_rfl) (by kernel_rfl) (fun x => #[x.b0, x.b1, x.b2, x.b3, x.b4, x.b5, x.b6, x.b7, x.b8, x.b9, x.b10, x.b11, x.b12]) (fun x => { tmps := #[.int .i64 (k : Nat), .int .u64 (y : Nat), .pointer (some ⟨a, 0, none⟩), .pointer (some ⟨b, 0, none⟩), undef, undef, x.s6, x.s7, x.s8, x.s9, x.s10, x.s11, x.s12, x.s13, x.s14, x.s15, x.s16, x.s17, undef, undef, undef], defers := [] }) (fun x W => (x.b0 = true → x.s7 = .pointer (some ⟨gm, 0, none⟩)) ∧ (x.b1 = true → x.s8 = .pointer (some ⟨gm, 0, none⟩)) ∧ (x.b2 = true → x.s9 = .pointer (some ⟨gm, 0, none⟩)) ∧ (x.b3 = true → x.s10 = .agg #[.slice va G.length vc]) ∧ (x.b4 = true → x.s11 = .int .i64 (p : Nat)) ∧ (x.b5 = true → x.s12 = .int .i64 (k : Nat)) ∧ (x.b6 = true → x.s13 = .int .u64 (y : Nat)) ∧ (x.b8 = true → x.s6 = x.s14) ∧ (x.b10 = true → x.s16 = .int .i64 0) ∧ (x.b11 = true → x.s17 = .pointer (some ⟨gm, 0, none⟩)) ∧ (QSt w a b gm p (.slice va G.length vc) G H x.b3 x.b7 x.b8 x.b9 x.b12 x.s14 x.s15 W)) ⟨false, false, false, false, false, false, false, false, false, false, false, false, false, undef, undef, undef, undef, undef, undef, undef, undef, undef, undef, undef, undef⟩ rfl rfl ⟨(fun h => by cases h), (fun h => by cases h), (fun h => by cases h), (fun h => by cases h), (fun h => by cases h), (fun h => by cases h), (fun h => by cases h), (fun h => by cases h), (fun h => by cases h), (fun h => by cases h), (QSt.start (Below.refl _ _).drew HP.out HM.out)⟩ (fun _ => rfl) ?hstep ?hdone
  case hstep =>
    rintro ⟨b0, b1, b2, b3, b4, b5, b6, b7, b8, b9, b10, b11, b12, s7, s8, s9, s10, s11, s12, s13, s14, s6, s15, s16, s17⟩ W hI i hi
    dsimp only at hI hi ⊢
    have HI := Lib.hid hI
    clear hI
    rw [Region.ready, List.mem_filter, List.mem_range] at hi
    obtain ⟨hlt, hp⟩ := hi
    have hi7 : i = 0 ∨ i = 1 ∨ i = 2 ∨ i = 3 ∨ i = 4 ∨ i = 5 ∨ i = 6 ∨ i = 7 ∨ i = 8 ∨ i = 9 ∨ i = 10 ∨ i = 11 ∨ i = 12 := by simp at hlt; omega
    clear hlt
    rcases hi7 with rfl | rfl | rfl | rfl | rfl | rfl | rfl | rfl | rfl | rfl | rfl | rfl | rfl
    all_goals simp [Region.binds] at hp
    · have hn0 : b0 = false := by revert hp; cases b0 <;> simp
      clear hp
      subst hn0
      refine inv_op (o := ⟨some 7, _, _, _, _, _⟩) rfl (fun K' hK' => ?_)
      have gI := HI.out.2.2.2.2.2.2.2.2.2.2
      obtain ⟨hc1, hc2⟩ := one_cell (gI.pa.1)
      go_simp
      obtain ⟨h0, h1, h2, h3, h4, h5, h6, h8, h10, h11, gI⟩ := HI.out
      exact hK'.out _ _ ⟨⟨true, b1, b2, b3, b4, b5, b6, b7, b8, b9, b10, b11, b12, _, s8, s9, s10, s11, s12, s13, s14, s6, s15, s16, s17⟩, rfl, rfl, (fun _ => rfl), h1, h2, h3, h4, h5, h6, h8, h10, h11, gI⟩
    · have hn1 : b1 = false := by revert hp; cases b1 <;> simp
      clear hp
      subst hn1
      refine inv_op (o := ⟨some 8, _, _, _, _, _⟩) rfl (fun K' hK' => ?_)
      have gI := HI.out.2.2.2.2.2.2.2.2.2.2
      obtain ⟨hc1, hc2⟩ := one_cell (gI.pa.1)
      go_simp
      obtain ⟨h0, h1, h2, h3, h4, h5, h6, h8, h10, h11, gI⟩ := HI.out
      exact hK'.out _ _ ⟨⟨b0, true, b2, b3, b4, b5, b6, b7, b8, b9, b10, b11, b12, s7, _, s9, s10, s11, s12, s13, s14, s6, s15, s16, s17⟩, rfl, rfl, h0, (fun _ => rfl), h2, h3, h4, h5, h6, h8, h10, h11, gI⟩
    · have hn2 : b2 = false := by revert hp; cases b2 <;> simp
      have e1 : b1 = true := by revert hp; cases b1 <;> simp
      clear hp
      obtain rfl := (HI.out.2.1) e1
      subst hn2
      refine inv_op (o := ⟨some 9, _, _, _, _, _⟩) rfl (fun K' hK' => ?_)
      go_simp
      obtain ⟨h0, h1, h2, h3, h4, h5, h6, h8, h10, h11, gI⟩ := HI.out
      exact hK'.out _ _ ⟨⟨b0, b1, true, b3, b4, b5, b6, b7, b8, b9, b10, b11, b12, s7, _, _, s10, s11, s12, s13, s14, s6, s15, s16, s17⟩, rfl, rfl, h0, h1, (fun _ => rfl), h3, h4, h5, h6, h8, h10, h11, gI⟩
    · have hn3 : b3 = false := by revert hp; cases b3 <;> simp
      have e2 : b2 = true := by revert hp; cases b2 <;> simp
      clear hp
      obtain rfl := (HI.out.2.2.1) e2
      subst hn3
      refine inv_op (o := ⟨some 10, _, _, _, _, _⟩) rfl (fun K' hK' => ?_)
      have gI := HI.out.2.2.2.2.2.2.2.2.2.2
      have hb12 := gI.before (.inl rfl)
      subst hb12
      obtain ⟨hc1, hc2⟩ := one_cell (gI.rm rfl)
      go_simp
      obtain ⟨h0, h1, h2, h3, h4, h5, h6, h8, h10, h11, gI⟩ := HI.out
      exact hK'.out _ _ ⟨⟨b0, b1, b2, true, b4, b5, b6, b7, b8, b9, b10, b11, false, s7, s8, _, _, s11, s12, s13, s14, s6, s15, s16, s17⟩, rfl, rfl, h0, h1, h2, (fun _ => rfl), h4, h5, h6, h8, h10, h11, gI.one⟩
    · have hn4 : b4 = false := by revert hp; cases b4 <;> simp
      clear hp
      subst hn4
      refine inv_op (o := ⟨some 11, _, _, _, _, _⟩) rfl (fun K' hK' => ?_)
      have gI := HI.out.2.2.2.2.2.2.2.2.2.2
      obtain ⟨hc1, hc2⟩ := one_cell (gI.pa.2)
      go_simp
      obtain ⟨h0, h1, h2, h3, h4, h5, h6, h8, h10, h11, gI⟩ := HI.out
      exact hK'.out _ _ ⟨⟨b0, b1, b2, b3, true, b5, b6, b7, b8, b9, b10, b11, b12, s7, s8, s9, s10, _, s12, s13, s14, s6, s15, s16, s17⟩, rfl, rfl, h0, h1, h2, h3, (fun _ => rfl), h5, h6, h8, h10, h11, gI⟩
    · have hn5 : b5 = false := by revert hp; cases b5 <;> simp
      clear hp
      subst hn5
      refine inv_op (o := ⟨some 12, _, _, _, _, _⟩) rfl (fun K' hK' => ?_)
      go_simp
      obtain ⟨h0, h1, h2, h3, h4, h5, h6, h8, h10, h11, gI⟩ := HI.out
      exact hK'.out _ _ ⟨⟨b0, b1, b2, b3, b4, true, b6, b7, b8, b9, b10, b11, b12, s7, s8, s9, s10, s11, _, s13, s14, s6, s15, s16, s17⟩, rfl, rfl, h0, h1, h2, h3, h4, (fun _ => rfl), h6, h8, h10, h11, gI⟩
    · have hn6 : b6 = false := by revert hp; cases b6 <;> simp
      clear hp
      subst hn6
      refine inv_op (o := ⟨some 13, _, _, _, _, _⟩) rfl (fun K' hK' => ?_)
      go_simp
      obtain ⟨h0, h1, h2, h3, h4, h5, h6, h8, h10, h11, gI⟩ := HI.out
      exact hK'.out _ _ ⟨⟨b0, b1, b2, b3, b4, b5, true, b7, b8, b9, b10, b11, b12, s7, s8, s9, s10, s11, s12, _, s14, s6, s15, s16, s17⟩, rfl, rfl, h0, h1, h2, h3, h4, h5, (fun _ => rfl), h8, h10, h11, gI⟩
    · have hn7 : b7 = false := by revert hp; cases b7 <;> simp
      have e3 : b3 = true := by revert hp; cases b3 <;> simp
      have e4 : b4 = true := by revert hp; cases b4 <;> simp
      have e5 : b5 = true := by revert hp; cases b5 <;> simp
      have e6 : b6 = true := by revert hp; cases b6 <;> simp
      clear hp
      obtain rfl := (HI.out.2.2.2.1) e3
      obtain rfl := (HI.out.2.2.2.2.1) e4
      obtain rfl := (HI.out.2.2.2.2.2.1) e5
      obtain rfl := (HI.out.2.2.2.2.2.2.1) e6
      subst hn7
      refine inv_op (o := ⟨some 14, _, _, _, _, _⟩) rfl (fun K' hK' => ?_)
      have gI := HI.out.2.2.2.2.2.2.2.2.2.2
      have hb12 := gI.before (.inr rfl)
      subst hb12
      subst e3
      go_simp
      refine (HPN.out W (gI.out rfl)).mono ?_
      rintro e w1 ⟨ra, rc, rfl, hr, bn⟩
      obtain ⟨h0, h1, h2, h3, h4, h5, h6, h8, h10, h11, gI⟩ := HI.out
      exact hK'.out _ _ ⟨⟨b0, b1, b2, true, b4, b5, b6, true, b8, b9, b10, b11, false, s7, s8, s9, _, _, _, _, _, s6, s15, s16, s17⟩, rfl, rfl, h0, h1, h2, h3, h4, h5, h6, (fun e3 => absurd (gI.o3 e3) (by decide)), h10, h11, (gI.two bn hr)⟩
    · have hn8 : b8 = false := by revert hp; cases b8 <;> simp
      have e7 : b7 = true := by revert hp; cases b7 <;> simp
      clear hp
      subst hn8
      refine inv_op (o := ⟨some 6, _, _, _, _, _⟩) rfl (fun K' hK' => ?_)
      subst e7
      go_simp
      obtain ⟨h0, h1, h2, h3, h4, h5, h6, h8, h10, h11, gI⟩ := HI.out
      exact hK'.out _ _ ⟨⟨b0, b1, b2, b3, b4, b5, b6, true, true, b9, b10, b11, b12, s7, s8, s9, s10, s11, s12, s13, _, _, s15, s16, s17⟩, rfl, rfl, h0, h1, h2, h3, h4, h5, h6, (fun _ => rfl), h10, h11, gI.three⟩
    · have hn9 : b9 = false := by revert hp; cases b9 <;> simp
      have e8 : b8 = true := by revert hp; cases b8 <;> simp
      clear hp
      obtain rfl := (HI.out.2.2.2.2.2.2.2.1) e8
      subst hn9
      refine inv_op (o := ⟨some 15, _, _, _, _, _⟩) rfl (fun K' hK' => ?_)
      have gI := HI.out.2.2.2.2.2.2.2.2.2.2
      obtain ⟨ra, rc, rfl, _⟩ := gI.g2 (gI.o3 e8)
      subst e8
      go_simp
      obtain ⟨h0, h1, h2, h3, h4, h5, h6, h8, h10, h11, gI⟩ := HI.out
      exact hK'.out _ _ ⟨⟨b0, b1, b2, b3, b4, b5, b6, b7, true, true, b10, b11, b12, s7, s8, s9, s10, s11, s12, s13, _, _, _, s16, s17⟩, rfl, rfl, h0, h1, h2, h3, h4, h5, h6, h8, h10, h11, gI.four⟩
    · have hn10 : b10 = false := by revert hp; cases b10 <;> simp
      have e8 : b8 = true := by revert hp; cases b8 <;> simp
      clear hp
      obtain rfl := (HI.out.2.2.2.2.2.2.2.1) e8
      subst hn10
      refine inv_op (o := ⟨some 16, _, _, _, _, _⟩) rfl (fun K' hK' => ?_)
      have gI := HI.out.2.2.2.2.2.2.2.2.2.2
      obtain ⟨ra, rc, rfl, _⟩ := gI.g2 (gI.o3 e8)
      go_simp
      obtain ⟨h0, h1, h2, h3, h4, h5, h6, h8, h10, h11, gI⟩ := HI.out
      exact hK'.out _ _ ⟨⟨b0, b1, b2, b3, b4, b5, b6, b7, b8, b9, true, b11, b12, s7, s8, s9, s10, s11, s12, s13, _, _, s15, _, s17⟩, rfl, rfl, h0, h1, h2, h3, h4, h5, h6, h8, (fun _ => rfl), h11, gI⟩
    · have hn11 : b11 = false := by revert hp; cases b11 <;> simp
      have e0 : b0 = true := by revert hp; cases b0 <;> simp
      clear hp
      obtain rfl := (HI.out.1) e0
      subst hn11
      refine inv_op (o := ⟨some 17, _, _, _, _, _⟩) rfl (fun K' hK' => ?_)
      go_simp
      obtain ⟨h0, h1, h2, h3, h4, h5, h6, h8, h10, h11, gI⟩ := HI.out
      exact hK'.out _ _ ⟨⟨b0, b1, b2, b3, b4, b5, b6, b7, b8, b9, b10, true, b12, _, s8, s9, s10, s11, s12, s13, s14, s6, s15, s16, _⟩, rfl, rfl, h0, h1, h2, h3, h4, h5, h6, h8, h10, (fun _ => rfl), gI⟩
    · have hn12 : b12 = false := by revert hp; cases b12 <;> simp
      have e0 : b0 = true := by revert hp; cases b0 <;> simp
      have e1 : b1 = true := by revert hp; cases b1 <;> simp
      have e2 : b2 = true := by revert hp; cases b2 <;> simp
      have e3 : b3 = true := by revert hp; cases b3 <;> simp
      have e4 : b4 = true := by revert hp; cases b4 <;> simp
      have e5 : b5 = true := by revert hp; cases b5 <;> simp
      have e6 : b6 = true := by revert hp; cases b6 <;> simp
      have e7 : b7 = true := by revert hp; cases b7 <;> simp
      have e8 : b8 = true := by revert hp; cases b8 <;> simp
      have e9 : b9 = true := by revert hp; cases b9 <;> simp
      have e11 : b11 = true := by revert hp; cases b11 <;> simp
      clear hp
      obtain rfl := (HI.out.2.2.2.2.2.2.2.2.2.1) e11
      subst hn12
      refine inv_op (o := ⟨none, _, _, _, _, _⟩) rfl (fun K' hK' => ?_)
      have gI := HI.out.2.2.2.2.2.2.2.2.2.2
      obtain ⟨ra, rc, hw, hown⟩ := gI.g2 e7
      obtain ⟨v, hv⟩ := gI.p4 e9
      obtain ⟨rfl, hvv⟩ := tuple_two (hv.symm.trans hw)
      clear hv hw hvv
      obtain ⟨hc1, hc2⟩ := one_cell (gI.rm rfl)
      subst e7
      subst e8
      subst e9
      go_simp
      obtain ⟨h0, h1, h2, h3, h4, h5, h6, h8, h10, h11, gI⟩ := HI.out
      exact hK'.out _ _ ⟨⟨b0, b1, b2, b3, b4, b5, b6, true, true, true, b10, b11, true, s7, s8, s9, s10, s11, s12, s13, s14, s6, _, s16, _⟩, rfl, rfl, h0, h1, h2, h3, h4, h5, h6, h8, h10, h11, (gI.seven hown)⟩
  case hdone =>
    rintro ⟨b0, b1, b2, b3, b4, b5, b6, b7, b8, b9, b10, b11, b12, s7, s8, s9, s10, s11, s12, s13, s14, s6, s15, s16, s17⟩ W hI hall
    dsimp only at hI hall ⊢
    have HI := Lib.hid hI
    clear hI
    obtain rfl : b0 = true := hall 0 (by decide)
    obtain rfl : b1 = true := hall 1 (by decide)
    obtain rfl : b2 = true := hall 2 (by decide)
    obtain rfl : b3 = true := hall 3 (by decide)
    obtain rfl : b4 = true := hall 4 (by decide)
    obtain rfl : b5 = true := hall 5 (by decide)
    obtain rfl : b6 = true := hall 6 (by decide)
    obtain rfl : b7 = true := hall 7 (by decide)
    obtain rfl : b8 = true := hall 8 (by decide)
    obtain rfl : b9 = true := hall 9 (by decide)
    obtain rfl : b10 = true := hall 10 (by decide)
    obtain rfl : b11 = true := hall 11 (by decide)
    obtain rfl : b12 = true := hall 12 (by decide)
    have gI := HI.out.2.2.2.2.2.2.2.2.2.2
    clear HI hall
    obtain ⟨w1, hw1⟩ : ∃ u, u = W := ⟨_, rfl⟩
    subst hw1
    obtain ⟨ra, rc, hm1, hg1, hb1⟩ := gI.g7 rfl
    have hpa := gI.pa
    have HM1 := Lib.hid hm1
    have HG1 := Lib.hid hg1
    have HB1 := Lib.hid hb1
    have HPA := Lib.hid hpa
    obtain ⟨d1, d2⟩ := one_cell hpa.2
    clear gI hm1 hg1 hb1 hpa
    go_wp2
    refine bodyPost_end (v := .tuple #[]) (by simp [results, Try.results57]) rfl ⟨rfl, ra, rc, ?_, ?_, ?_, .slice ra G.length rc, .int .i64 (q : Nat), ?_⟩
    · exact one_other HM1.out _ _ (by simpa using blocks_ne HM1.out HPA.out.2 tneMI.symm)
    · exact ⟨one_other HPA.out.1 _ _ (by simpa using blocks_ne HPA.out.1 HPA.out.2 tnePI.symm), one_set HPA.out.2 _⟩
    · exact HG1.out.far HPA.out.2 tneIU _
    · have h := HB1.out
      have h2 : Below (w.setCell ⟨gm, 0, none⟩ (.slice ra G.length rc)).heap.size (w.setCell ⟨gm, 0, none⟩ (.slice ra G.length rc)) w1 := by rw [set_size]; exact h
      have h3 := below_set h2 b (.int .i64 (q : Nat))
      rw [set_size] at h3
      exact h3
end Go.Proofs.Ytofeiheomnpggaa
