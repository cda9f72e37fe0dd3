/- Where a statement stands that calls for ports and lays what is answered into a new box, in whatever order; where one appends, and lays a box into another one. -/
import Derived.Test.YtpnfikbpcpdgiaaPrtG
import Derived.Test.YtpnfikbpcpdgiaaInv
import Derived.Test.YtpnfikbpcpdgiaaAppS
namespace Go.Proofs.Ytpnfikbpcpdgiaa
open Go.RowKit Go.Lib

/-- What is answered: ports with a pool of the call's own, and a number. -/
def OwnA (B : Nat) (w : World) (L M T k : Nat) (l : List UInt8) (F : Int) (e : Ending) (w' : World) : Prop :=
  ∃ a c, e = .returned (.tuple #[.agg #[.int .u32 (L : Nat), .int .u32 (M : Nat), .int .u64 (T : Nat), .slice a k c], .int .i64 F]) ∧ w'.ownsRow B 5 1 (.slice a k c) k (byteCells l) ∧ Below w.heap.size w w'
theorem Gave.own {B : Nat} {w w' : World} {L M T k : Nat} {l : List UInt8} {F : Int} {e : Ending} (hB : B ≤ w.heap.size) (hk : l.length = k) (h : Gave w L M T l F e w') : OwnA B w L M T k l F e w' := by
  obtain ⟨r, h1, h2, h3⟩ := h
  obtain ⟨a, n, c, rfl, hn⟩ := (isArg_of_owns h2).shape3
  rw [hk] at hn h2
  subst hn
  exact ⟨a, c, h1, ownsRow_base h2 hB, h3⟩
theorem fill_own (L M T : Nat) (l : List UInt8) (hl : l.length ≤ 140737488355328) (q : List UInt8) (hq : q.length ≤ 140737488355328) (F : Int) (hF : fillP T l.length q.length = F) (g : List UInt8) (hg : fillL T l q = g) (k : Nat) (hk : g.length = k) (B : Nat) (w : World) (hB : B ≤ w.heap.size) (v : Value) (hv : IsArg w v l) (u : Value) (hu : IsArg w u q) :
    Calls Try.prog 18 #[.agg #[.int .u32 (L : Nat), .int .u32 (M : Nat), .int .u64 (T : Nat), v], u] w (OwnA B w L M T k g F) :=
  (fill_any L M T v l w hv hl u q hu hq F hF g hg).mono fun _ _ h => h.own hB hk
theorem tick_own (L M T : Nat) (l : List UInt8) (k : Nat) (hk : l.length = k) (hl : l.length ≤ 140737488355328) (t : Nat) (F : Int) (hF : tickP T l.length t = F) (m : Nat) (hm : tickT T l.length t = m) (B : Nat) (w : World) (hB : B ≤ w.heap.size) (v : Value) (hv : IsArg w v l) :
    Calls Try.prog 16 #[.agg #[.int .u32 (L : Nat), .int .u32 (M : Nat), .int .u64 (T : Nat), v], .int .u64 (t : Nat)] w (OwnA B w L M m k l F) :=
  (tick_any L M T v l w hv hl t F hF m hm).mono fun _ _ h => h.own hB hk
def OwnA2 (w : World) (L M T k : Nat) (l : List UInt8) (j : Nat) (q : List UInt8) (F : Int) (e : Ending) (w' : World) : Prop :=
  ∃ a c b d, e = .returned (.tuple #[.agg #[.int .u32 (L : Nat), .int .u32 (M : Nat), .int .u64 (T : Nat), .slice a k c], .slice b j d, .int .i64 F]) ∧ w'.ownsRow w.heap.size 5 1 (.slice a k c) k (byteCells l) ∧ w'.ownsRow w.heap.size 5 1 (.slice b j d) j (byteCells q) ∧ Below w.heap.size w w'
theorem draw_own (L M T : Nat) (l : List UInt8) (hl : l.length ≤ 140737488355328) (z : Int) (F : Int) (hF : drawP T l.length z = F) (g : List UInt8) (hg : leftL T l z = g) (k : Nat) (hk : g.length = k) (q : List UInt8) (hq : takenL T l z = q) (j : Nat) (hj : q.length = j) (w : World) (v : Value) (hv : IsArg w v l) :
    Calls Try.prog 20 #[.agg #[.int .u32 (L : Nat), .int .u32 (M : Nat), .int .u64 (T : Nat), v], .int .i64 z] w (OwnA2 w L M T k g j q F) :=
  (draw_any L M T v l w hv hl z F hF g q hg hq).mono fun _ _ ⟨r, s, h1, h2, h3, h4⟩ => by
    obtain ⟨a, n, c, rfl, hn⟩ := (isArg_of_owns h2).shape3
    obtain ⟨b, m, d, rfl, hm⟩ := (isArg_of_owns h3).shape3
    rw [hk] at hn h2
    rw [hj] at hm h3
    subst hn
    subst hm
    exact ⟨a, c, b, d, h1, h2, h3, h4⟩
theorem tuple_two {x y u v : Value} (h : Value.tuple #[x, u] = .tuple #[y, v]) : x = y ∧ u = v := by
  injection h with h
  injection h with h
  injection h with h1 h
  injection h with h2 _
  exact ⟨h1, h2⟩

structure PSt (C0 : World) (L M T k : Nat) (l : List UInt8) (F : Int) (b2 b3 b4 b6 b7 : Bool) (s30 s31 s3 : Value) (W : World) : Prop where
  out : Below C0.heap.size C0 W
  o3 : b3 = true → b2 = true
  o4 : b4 = true → b3 = true
  o7 : b7 = true → b6 = true
  o8 : b7 = true → b4 = true
  p4 : b4 = true → ∃ v, s30 = .tuple #[s31, v]
  g2 : b2 = true → ∃ a c, s30 = .tuple #[.agg #[.int .u32 (L : Nat), .int .u32 (M : Nat), .int .u64 (T : Nat), .slice a k c], .int .i64 F] ∧ W.ownsRow C0.heap.size 5 1 (.slice a k c) k (byteCells l)
  g6 : b6 = true → b7 = false → ∃ g, s3 = .pointer (some ⟨g, 0, none⟩) ∧ C0.heap.size ≤ g ∧ W.heap[g]? = some (.cells #[.int .u32 0, .int .u32 0, .int .u64 0, .slice none 0 0] 26 (0, 0))
  g7 : b7 = true → ∃ g a c, s3 = .pointer (some ⟨g, 0, none⟩) ∧ C0.heap.size ≤ g ∧ W.heap[g]? = some (.cells #[.int .u32 (L : Nat), .int .u32 (M : Nat), .int .u64 (T : Nat), .slice a k c] 26 (0, 0)) ∧ W.ownsRow C0.heap.size 5 1 (.slice a k c) k (byteCells l)
section
variable {C0 : World} {L M T k : Nat} {l : List UInt8} {F : Int} {b2 b3 b4 b6 b7 : Bool} {s30 s31 s3 : Value} {W W1 : World}
theorem PSt.below (h : PSt C0 L M T k l F b2 b3 b4 b6 b7 s30 s31 s3 W) (hb : Below W.heap.size W W1) : PSt C0 L M T k l F b2 b3 b4 b6 b7 s30 s31 s3 W1 where
  out := h.out.trans (hb.mono h.out.size)
  o3 := h.o3
  o4 := h.o4
  o7 := h.o7
  o8 := h.o8
  p4 := h.p4
  g2 := fun e => by obtain ⟨a, c, h1, h2⟩ := h.g2 e; exact ⟨a, c, h1, ownsRow_below h2 hb⟩
  g6 := fun e e2 => by obtain ⟨g, h1, h2, h3⟩ := h.g6 e e2; exact ⟨g, h1, h2, row_keep h3 hb⟩
  g7 := fun e => by obtain ⟨g, a, c, h1, h2, h3, h4⟩ := h.g7 e; exact ⟨g, a, c, h1, h2, row_keep h3 hb, ownsRow_below h4 hb⟩
theorem PSt.start (hb : Below C0.heap.size C0 W) : PSt C0 L M T k l F false false false false false s30 s31 s3 W :=
  { out := hb, o3 := (fun e => by cases e), o4 := (fun e => by cases e), o7 := (fun e => by cases e), o8 := (fun e => by cases e), p4 := (fun e => by cases e), g2 := (fun e => by cases e), g6 := (fun e => by cases e), g7 := (fun e => by cases e) }
theorem PSt.two {a c} (h : PSt C0 L M T k l F false b3 b4 b6 b7 s30 s31 s3 W) (hb : Below W.heap.size W W1) (hr : W1.ownsRow C0.heap.size 5 1 (.slice a k c) k (byteCells l)) : PSt C0 L M T k l F true b3 b4 b6 b7 (.tuple #[.agg #[.int .u32 (L : Nat), .int .u32 (M : Nat), .int .u64 (T : Nat), .slice a k c], .int .i64 F]) s31 s3 W1 :=
  { h.below hb with o3 := fun _ => rfl, p4 := (fun e => absurd (h.o3 (h.o4 e)) (by decide)), g2 := fun _ => ⟨a, c, rfl, hr⟩ }
theorem PSt.three (h : PSt C0 L M T k l F true b3 b4 b6 b7 s30 s31 s3 W) : PSt C0 L M T k l F true true b4 b6 b7 s30 s31 s3 W :=
  { h with o3 := fun _ => rfl, o4 := fun _ => rfl }
theorem PSt.four {x v : Value} (h : PSt C0 L M T k l F b2 true b4 b6 b7 (.tuple #[x, v]) s31 s3 W) : PSt C0 L M T k l F b2 true true b6 b7 (.tuple #[x, v]) x s3 W :=
  { h with o4 := fun _ => rfl, o8 := fun _ => rfl, p4 := fun _ => ⟨v, rfl⟩ }
theorem PSt.six (h : PSt C0 L M T k l F b2 b3 b4 false b7 s30 s31 s3 W) : PSt C0 L M T k l F b2 b3 b4 true b7 s30 s31 (.pointer (some ⟨W.heap.size, 0, none⟩)) (W.alloc (.cells #[.int .u32 0, .int .u32 0, .int .u64 0, .slice none 0 0] 26)) :=
  { h.below ((Below.refl _ _).alloc (Nat.le_refl _) (.cells #[.int .u32 0, .int .u32 0, .int .u64 0, .slice none 0 0] 26)) with o7 := fun _ => rfl, g6 := fun _ _ => ⟨_, rfl, h.out.size, heap_alloc_new W _⟩, g7 := (fun e => absurd (h.o7 e) (by decide)) }
theorem PSt.seven {g : Nat} {a c} (h : PSt C0 L M T k l F b2 b3 b4 true false s30 s31 (.pointer (some ⟨g, 0, none⟩)) W) (h4 : b4 = true) (hr : W.ownsRow C0.heap.size 5 1 (.slice a k c) k (byteCells l)) (hg : C0.heap.size ≤ g) (hrow : W.heap[g]? = some (.cells #[.int .u32 0, .int .u32 0, .int .u64 0, .slice none 0 0] 26 (0, 0))) :
    PSt C0 L M T k l F b2 b3 b4 true true s30 s31 (.pointer (some ⟨g, 0, none⟩)) ((((W.setCell ⟨g, 0, none⟩ (.int .u32 (L : Nat))).setCell ⟨g, 1, none⟩ (.int .u32 (M : Nat))).setCell ⟨g, 2, none⟩ (.int .u64 (T : Nat))).setCell ⟨g, 3, none⟩ (.slice a k c)) where
  out := put4_below (a := .int .u32 (L : Nat)) (b := .int .u32 (M : Nat)) (c := .int .u64 (T : Nat)) (d := .slice a k c) h.out hg
  o3 := h.o3
  o4 := h.o4
  o7 := fun _ => rfl
  o8 := fun _ => h4
  p4 := h.p4
  g2 := fun e => by obtain ⟨a', c', e1, e2⟩ := h.g2 e; exact ⟨a', c', e1, put4_owns e2 hrow⟩
  g6 := (fun _ e => by cases e)
  g7 := fun _ => ⟨g, a, c, rfl, hg, put4_row hrow, put4_owns hr hrow⟩
end

/-- out = append(out, xs...), p = q. -/
structure ASt (w : World) (pb gq x0 : Nat) (va vb vo xv : Value) (o q l : List UInt8) (b3 b4 : Bool) (s : Value) (W : World) : Prop where
  out : Below w.heap.size w W
  rq : W.heap[gq]? = some (.cells #[.int .u32 (x0 : Nat), .int .u32 (x0 : Nat), .int .u64 (x0 : Nat), vb] 26 (0, 0))
  rp : W.heap[pb]? = some (.cells #[.int .u32 (x0 : Nat), .int .u32 (x0 : Nat), .int .u64 (x0 : Nat), (if b4 = true then vb else va)] 26 (0, 0))
  o4 : b4 = true → b3 = true
  own : b3 = false → W.ownsRow w.heap.size 5 1 vo o.length (byteCells o)
  now : b3 = true → W.ownsRow w.heap.size 5 1 s (o ++ q).length (byteCells (o ++ q))
  lef : W.ownsRow w.heap.size 5 1 vb l.length (byteCells l)
  arg : b3 = false → IsArg W xv q
  apart : ∀ k, vo.ownBlock = some k → vb.ownBlock ≠ some k
section
variable {w W W1 : World} {pb gq x0 : Nat} {va vb vo xv s : Value} {o q l : List UInt8} {b3 b4 : Bool}
theorem tneP : (26 : Nat) ≠ 5 := by decide
theorem ASt.below2 (h : ASt w pb gq x0 va vb vo xv o q l b3 b4 s W) (hb : Below W.heap.size W W1) : ASt w pb gq x0 va vb vo xv o q l b3 b4 s W1 where
  out := h.out.trans (hb.mono h.out.size)
  rq := row_keep h.rq hb
  rp := row_keep h.rp hb
  o4 := h.o4
  own := fun e => ownsRow_below (h.own e) hb
  now := fun e => ownsRow_below (h.now e) hb
  lef := ownsRow_below h.lef hb
  arg := fun e => (h.arg e).below hb
  apart := h.apart
theorem ASt.three (h : ASt w pb gq x0 va vb vo xv o q l false b4 s W) (v' : Value) (h1 : W1.ownsRow w.heap.size 5 1 v' (o.length + q.length) (byteCells o ++ byteCells q)) (hg : W.grownBy W1 vo.ownBlock) : ASt w pb gq x0 va vb vo xv o q l true b4 v' W1 where
  out := h.out.grown hg h.out.size (fun k hk => ((h.own rfl).lt k hk).1)
  rq := other_grown (h.own rfl) hg h.rq tneP
  rp := other_grown (h.own rfl) hg h.rp tneP
  o4 := fun _ => rfl
  own := (fun e => by cases e)
  now := fun _ => by rw [List.length_append]; simpa [byteCells] using h1
  lef := owns_grown h.lef hg h.apart
  arg := (fun e => by cases e)
  apart := h.apart
theorem ASt.four (h : ASt w pb gq x0 va vb vo xv o q l true false s W) (hpb : w.heap.size ≤ pb) (hne : gq ≠ pb) : ASt w pb gq x0 va vb vo xv o q l true true s (put4 W pb (.int .u32 (x0 : Nat)) (.int .u32 (x0 : Nat)) (.int .u64 (x0 : Nat)) vb) where
  out := put4_below h.out hpb
  rq := put4_far h.rq hne
  rp := put4_row h.rp
  o4 := fun _ => rfl
  own := (fun e => by cases e)
  now := fun _ => put4_owns (h.now rfl) h.rp
  lef := put4_owns h.lef h.rp
  arg := (fun e => by cases e)
  apart := h.apart
end
end Go.Proofs.Ytpnfikbpcpdgiaa
