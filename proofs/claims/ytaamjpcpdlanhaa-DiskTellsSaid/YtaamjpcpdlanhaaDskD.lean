/- Where a statement stands that makes a sector, writes it, and lays what is answered into a new box, in whatever order. -/
import Derived.Test.YtaamjpcpdlanhaaDskG
import Derived.Test.YtaamjpcpdlanhaaInv
namespace Go.Proofs.Ytaamjpcpdlanhaa
open Go.RowKit Go.Lib

structure DSt (C0 : World) (F : Int) (S : List (List UInt8)) (C : List (Int × List UInt8)) (n m : Nat) (L : List UInt8) (b1 b2 b3 b4 b6 b7 : Bool) (s29 s30 s31 s3 : Value) (W : World) : Prop where
  out : Below C0.heap.size C0 W
  o3 : b3 = true → b2 = true
  o4 : b4 = true → b3 = true
  o7 : b7 = true → b6 = true
  o8 : b7 = true → b4 = true
  p4 : b4 = true → ∃ v, s30 = .tuple #[s31, v]
  g1 : b1 = true → b7 = false → ∃ g, s29 = .slice (some ⟨g, 0, none⟩) 256 256 ∧ IsArg W s29 L
  g2 : b2 = true → ∃ a p b q B, s30 = .tuple #[.agg #[.slice a n p, .slice b m q], .int .i64 F] ∧ OwnDisk B W (.slice a n p) (.slice b m q) S C
  g6 : b6 = true → b7 = false → ∃ g, s3 = .pointer (some ⟨g, 0, none⟩) ∧ C0.heap.size ≤ g ∧ W.heap[g]? = some (.cells #[.slice none 0 0, .slice none 0 0] 25 (0, 0))
  g7 : b7 = true → ∃ g a p b q B, s3 = .pointer (some ⟨g, 0, none⟩) ∧ W.heap[g]? = some (.cells #[.slice a n p, .slice b m q] 25 (0, 0)) ∧ OwnDisk B W (.slice a n p) (.slice b m q) S C
section
variable {C0 : World} {F : Int} {S : List (List UInt8)} {C : List (Int × List UInt8)} {n m : Nat} {L : List UInt8} {b1 b2 b3 b4 b6 b7 : Bool} {s29 s30 s31 s3 : Value} {W W1 : World}
theorem DSt.below (h : DSt C0 F S C n m L b1 b2 b3 b4 b6 b7 s29 s30 s31 s3 W) (hb : Below W.heap.size W W1) : DSt C0 F S C n m L b1 b2 b3 b4 b6 b7 s29 s30 s31 s3 W1 where
  out := h.out.trans (hb.mono h.out.size)
  o3 := h.o3
  o4 := h.o4
  o7 := h.o7
  o8 := h.o8
  p4 := h.p4
  g1 := fun e e2 => by obtain ⟨g, h1, h2⟩ := h.g1 e e2; exact ⟨g, h1, h2.below hb⟩
  g2 := fun e => by obtain ⟨a, p, b, q, B, h1, h2⟩ := h.g2 e; exact ⟨a, p, b, q, B, h1, h2.below hb⟩
  g6 := fun e e2 => by obtain ⟨g, h1, h2, h3⟩ := h.g6 e e2; exact ⟨g, h1, h2, row_keep h3 hb⟩
  g7 := fun e => by obtain ⟨g, a, p, b, q, B, h1, h2, h3⟩ := h.g7 e; exact ⟨g, a, p, b, q, B, h1, row_keep h2 hb, h3.below hb⟩
theorem DSt.start (hb : Below C0.heap.size C0 W) : DSt C0 F S C n m L false false false false false false s29 s30 s31 s3 W :=
  { out := hb, o3 := (fun e => by cases e), o4 := (fun e => by cases e), o7 := (fun e => by cases e), o8 := (fun e => by cases e), p4 := (fun e => by cases e), g1 := (fun e => by cases e), g2 := (fun e => by cases e), g6 := (fun e => by cases e), g7 := (fun e => by cases e) }
theorem DSt.one {g : Nat} (h : DSt C0 F S C n m L false b2 b3 b4 b6 b7 s29 s30 s31 s3 W) (hb : Below W.heap.size W W1) (hr : IsArg W1 (.slice (some ⟨g, 0, none⟩) 256 256) L) : DSt C0 F S C n m L true b2 b3 b4 b6 b7 (.slice (some ⟨g, 0, none⟩) 256 256) s30 s31 s3 W1 :=
  { h.below hb with g1 := fun _ _ => ⟨g, rfl, hr⟩ }
theorem DSt.two {a p b q} {B : Nat} (h : DSt C0 F S C n m L b1 false b3 b4 b6 b7 s29 s30 s31 s3 W) (hb : Below W.heap.size W W1) (hr : OwnDisk B W1 (.slice a n p) (.slice b m q) S C) : DSt C0 F S C n m L b1 true b3 b4 b6 b7 s29 (.tuple #[.agg #[.slice a n p, .slice b m q], .int .i64 F]) s31 s3 W1 :=
  { h.below hb with o3 := fun _ => rfl, p4 := (fun e => absurd (h.o3 (h.o4 e)) (by decide)), g2 := fun _ => ⟨a, p, b, q, B, rfl, hr⟩ }
theorem DSt.three (h : DSt C0 F S C n m L b1 true b3 b4 b6 b7 s29 s30 s31 s3 W) : DSt C0 F S C n m L b1 true true b4 b6 b7 s29 s30 s31 s3 W :=
  { h with o3 := fun _ => rfl, o4 := fun _ => rfl }
theorem DSt.four {x v : Value} (h : DSt C0 F S C n m L b1 b2 true b4 b6 b7 s29 (.tuple #[x, v]) s31 s3 W) : DSt C0 F S C n m L b1 b2 true true b6 b7 s29 (.tuple #[x, v]) x s3 W :=
  { h with o4 := fun _ => rfl, o8 := fun _ => rfl, p4 := fun _ => ⟨v, rfl⟩ }
theorem DSt.six (h : DSt C0 F S C n m L b1 b2 b3 b4 false b7 s29 s30 s31 s3 W) : DSt C0 F S C n m L b1 b2 b3 b4 true b7 s29 s30 s31 (.pointer (some ⟨W.heap.size, 0, none⟩)) (W.alloc (.cells #[.slice none 0 0, .slice none 0 0] 25)) :=
  { h.below ((Below.refl _ _).alloc (Nat.le_refl _) (.cells #[.slice none 0 0, .slice none 0 0] 25)) with o7 := fun _ => rfl, g6 := fun _ _ => ⟨_, rfl, h.out.size, heap_alloc_new W _⟩, g7 := (fun e => absurd (h.o7 e) (by decide)) }
theorem DSt.seven {g : Nat} {a p b q} {B : Nat} (h : DSt C0 F S C n m L b1 b2 b3 b4 true false s29 s30 s31 (.pointer (some ⟨g, 0, none⟩)) W) (h4 : b4 = true) (hr : OwnDisk B W (.slice a n p) (.slice b m q) S C) (hg : C0.heap.size ≤ g) (hrow : W.heap[g]? = some (.cells #[.slice none 0 0, .slice none 0 0] 25 (0, 0))) :
    DSt C0 F S C n m L b1 b2 b3 b4 true true s29 s30 s31 (.pointer (some ⟨g, 0, none⟩)) ((W.setCell ⟨g, 0, none⟩ (.slice a n p)).setCell ⟨g, 1, none⟩ (.slice b m q)) := by
  have h1 : (W.setCell ⟨g, 0, none⟩ (.slice a n p)).heap[g]? = some (.cells #[.slice a n p, .slice none 0 0] 25 (0, 0)) := heap_setCell_same W g 0 _ _ _ hrow
  exact { out := (h.out.setCell hg _).setCell hg _, o3 := h.o3, o4 := h.o4, o7 := fun _ => rfl, o8 := fun _ => h4, p4 := h.p4
          g1 := (fun _ e => by cases e)
          g2 := fun e => by obtain ⟨a', p', b', q', B', e1, e2⟩ := h.g2 e; exact ⟨a', p', b', q', B', e1, (e2.box hrow 0 _).box h1 1 _⟩
          g6 := (fun _ e => by cases e)
          g7 := fun _ => ⟨g, a, p, b, q, B, rfl, box_put hrow, (hr.box hrow 0 _).box h1 1 _⟩ }
end
theorem tuple_two {x y u v : Value} (h : Value.tuple #[x, u] = .tuple #[y, v]) : x = y ∧ u = v := by
  injection h with h
  injection h with h
  injection h with h1 h
  injection h with h2 _
  exact ⟨h1, h2⟩
theorem write_put (s c : Value) (S : List (List UInt8)) (C : List (Int × List UInt8)) (hf : FewD S C) (z : Int) (V : Value) (l : List UInt8) (hl : l.length ≤ 100000) (F : Int) (S2 : List (List UInt8)) (C2 : List (Int × List UInt8)) (n m : Nat) (hF : wFault S C z l.length = F) (hS : S = S2) (hC : writeOf S C z l = C2) (hn : S2.length = n) (hm : C2.length = m) (w : World) (hd : IsDisk w s c S C) (hV : IsArg w V l) :
    Calls Try.prog 16 #[.agg #[s, c], .int .i64 z, V] w fun e w' => ∃ a p b q B, e = .returned (.tuple #[.agg #[.slice a n p, .slice b m q], .int .i64 F]) ∧ OwnDisk B w' (.slice a n p) (.slice b m q) S2 C2 ∧ Below w.heap.size w w' :=
  (write_own s c S C w hd hf z V l hV hl F hF).mono fun e w' ⟨sv, cv, B, h1, h2, h3⟩ => by
    subst hS
    rw [hC] at h2
    obtain ⟨a, ca, a1, c1, rfl, rfl, _, _⟩ := h2.disk.shape
    subst hn
    subst hm
    exact ⟨a, ca, a1, c1, B, h1, h2, h3⟩
end Go.Proofs.Ytaamjpcpdlanhaa
