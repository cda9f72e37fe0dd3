/- What is read: rows of bytes, writes, disks, flags; what keeps them. -/
import Derived.Test.YtaamjpcpdlanhaaDskP
import Derived.Test.YtaamjpcpdlanhaaArg
namespace Go.Proofs.Ytaamjpcpdlanhaa
open Go.RowKit Go.Lib

theorem IsArg.shape3 {w : World} {v : Value} {l : List UInt8} (h : IsArg w v l) : ∃ a n c, v = .slice a n c ∧ n = l.length := by
  obtain ⟨a, c, rfl⟩ := h.1.shape
  exact ⟨a, _, c, rfl, rfl⟩
/-- n elements whose cells, side by side, are these. -/
def Held (w : World) (v : Value) (n : Nat) (cs : List Value) : Prop :=
  (v = .slice none 0 0 ∧ n = 0 ∧ cs = []) ∨ ∃ ad c, v = .slice (some ad) n c ∧ n ≤ c ∧ c ≤ maxLen ∧ ∀ j u, cs[j]? = some u → w.cell? (ad.add j) = some u
theorem Held.below {w w' : World} {v : Value} {n : Nat} {cs : List Value} (h : Held w v n cs) (hb : Below w.heap.size w w') : Held w' v n cs := by
  rcases h with h | ⟨ad, c, h1, h2, h3, h4⟩
  · exact .inl h
  · exact .inr ⟨ad, c, h1, h2, h3, fun j u hu => by
      have h5 := h4 j u hu
      rw [hb.cell (World.block_lt_of_cell? w _ h5)]; exact h5⟩
theorem Held.shape {w : World} {v : Value} {n : Nat} {cs : List Value} (h : Held w v n cs) : ∃ a c, v = .slice a n c ∧ n ≤ maxLen := by
  rcases h with ⟨rfl, rfl, _⟩ | ⟨ad, c, rfl, h2, h3, _⟩
  · exact ⟨none, 0, rfl, Nat.zero_le _⟩
  · exact ⟨some ad, c, rfl, Nat.le_trans h2 h3⟩
theorem Held.lit {w : World} {a : Option Addr} {n c : Nat} {cs : List Value} (h : Held w (.slice a n c) n cs) (h0 : 0 < cs.length) :
    ∃ b off, a = some ⟨b, off, none⟩ ∧ b < w.heap.size ∧ ∀ j u, cs[j]? = some u → w.cell? ⟨b, off + j, none⟩ = some u := by
  rcases h with ⟨_, _, rfl⟩ | ⟨ad, c', h1, _, _, h4⟩
  · simp at h0
  · cases h1
    have h5 := h4 0 _ (List.getElem?_eq_getElem h0)
    have hlt := World.block_lt_of_cell? w _ h5
    rw [Addr.add_zero'] at h5 hlt
    obtain ⟨b, off, spot⟩ := ad
    obtain rfl : spot = none := by
      cases spot with
      | none => rfl
      | some x =>
        exfalso
        unfold World.cell? at h5
        split at h5
        · simp at h5
        · cases h5
    refine ⟨b, off, rfl, hlt, fun j u hu => ?_⟩
    have h6 := h4 j u hu
    rwa [Addr.add_lit] at h6
theorem held_of_owns {w : World} {base : Nat} {t : TypeId} {size : Nat} {v : Value} {n : Nat} {cs : List Value} (h : w.ownsRow base t size v n cs) : Held w v n cs := by
  rcases h.2 with ⟨rfl, h0⟩ | ⟨g, cap, cur, rfl, _, hh, hnc, hcm, _, _⟩
  · refine .inl ⟨rfl, h0, ?_⟩
    have := h.1
    rw [h0] at this
    exact List.length_eq_zero_iff.1 (by omega)
  · exact .inr ⟨⟨g, 0, none⟩, cap, rfl, hnc, hcm, fun j u hu => World.ownsRow.cells h rfl j u hu⟩

/-- Sects of bytes. -/
def Sects (w : World) (v : Value) (S : List (List UInt8)) : Prop :=
  ∃ Vs : List Value, Vs.length = S.length ∧ Held w v S.length Vs ∧ ∀ (i : Nat) (V : Value) (l : List UInt8), Vs[i]? = some V → S[i]? = some l → IsArg w V l
theorem Sects.below {w w' : World} {v : Value} {S : List (List UInt8)} (h : Sects w v S) (hb : Below w.heap.size w w') : Sects w' v S := by
  obtain ⟨Vs, h1, h2, h3⟩ := h
  exact ⟨Vs, h1, h2.below hb, fun i V l hV hl => (h3 i V l hV hl).below hb⟩
theorem Sects.shape {w : World} {v : Value} {S : List (List UInt8)} (h : Sects w v S) : ∃ a c, v = .slice a S.length c ∧ S.length ≤ maxLen := by
  obtain ⟨Vs, _, h2, _⟩ := h
  exact h2.shape
theorem Sects.at {w : World} {a : Option Addr} {n c : Nat} {S : List (List UInt8)} (h : Sects w (.slice a n c) S) (k : Nat) (hk : k < S.length) :
    ∃ b off V, a = some ⟨b, off, none⟩ ∧ w.cell? ⟨b, off + k, none⟩ = some V ∧ IsArg w V (S.getD k []) := by
  obtain ⟨Vs, h1, h2, h3⟩ := h
  obtain ⟨a', c', hs, _⟩ := h2.shape
  cases hs
  obtain ⟨b, off, h4, _, h5⟩ := h2.lit (by omega)
  have hV : Vs[k]? = some (Vs[k]'(by omega)) := List.getElem?_eq_getElem _
  refine ⟨b, off, _, h4, h5 k _ hV, ?_⟩
  have hl : S[k]? = some (S.getD k []) := by simp [List.getD_eq_getElem?_getD, hk]
  exact h3 k _ _ hV hl
theorem rows_nil (w : World) : Sects w (.slice none 0 0) [] := ⟨[], rfl, .inl ⟨rfl, rfl, rfl⟩, fun i V l h => by simp at h⟩

/-- The cells of writes. -/
def wcells (X : List (Int × Value)) : List Value := X.flatMap fun x => [.int .i64 x.1, x.2]
theorem wcells_length (X : List (Int × Value)) : (wcells X).length = X.length * 2 := by
  induction X with
  | nil => rfl
  | cons x r ih => simp only [wcells, List.flatMap_cons, List.length_append, List.length_cons, List.length_nil] at ih ⊢; omega
theorem wcells_append (X Y : List (Int × Value)) : wcells (X ++ Y) = wcells X ++ wcells Y := by simp [wcells]
theorem wcells_at (X : List (Int × Value)) (k : Nat) (x : Int × Value) (h : X[k]? = some x) : (wcells X)[k * 2]? = some (.int .i64 x.1) ∧ (wcells X)[k * 2 + 1]? = some x.2 := by
  induction X generalizing k with
  | nil => simp at h
  | cons y r ih =>
    cases k with
    | zero => simp at h; subst h; exact ⟨rfl, rfl⟩
    | succ k =>
      have h1 := ih k (by simpa using h)
      have h2 : wcells (y :: r) = .int .i64 y.1 :: y.2 :: wcells r := rfl
      rw [h2, show (k + 1) * 2 = k * 2 + 1 + 1 by omega]
      exact h1
theorem wcells_set (X : List (Int × Value)) (k : Nat) (z : Int) (V : Value) : ((wcells X).set (k * 2) (.int .i64 z)).set (k * 2 + 1) V = wcells (X.set k (z, V)) := by
  induction X generalizing k with
  | nil => rfl
  | cons y r ih =>
    have h2 : ∀ (y : Int × Value) (r : List (Int × Value)), wcells (y :: r) = .int .i64 y.1 :: y.2 :: wcells r := fun _ _ => rfl
    cases k with
    | zero => rfl
    | succ k =>
      rw [List.set_cons_succ, h2, h2, show (k + 1) * 2 = k * 2 + 1 + 1 by omega, ← ih k]
      rfl
def Writes (w : World) (v : Value) (C : List (Int × List UInt8)) : Prop :=
  ∃ X : List (Int × Value), X.length = C.length ∧ Held w v C.length (wcells X) ∧ ∀ (i : Nat) (x : Int × Value) (y : Int × List UInt8), X[i]? = some x → C[i]? = some y → x.1 = y.1 ∧ IsArg w x.2 y.2
theorem Writes.below {w w' : World} {v : Value} {C : List (Int × List UInt8)} (h : Writes w v C) (hb : Below w.heap.size w w') : Writes w' v C := by
  obtain ⟨X, h1, h2, h3⟩ := h
  exact ⟨X, h1, h2.below hb, fun i x y hx hy => ⟨(h3 i x y hx hy).1, (h3 i x y hx hy).2.below hb⟩⟩
theorem Writes.shape {w : World} {v : Value} {C : List (Int × List UInt8)} (h : Writes w v C) : ∃ a c, v = .slice a C.length c ∧ C.length ≤ maxLen := by
  obtain ⟨X, _, h2, _⟩ := h
  exact h2.shape
theorem Writes.at {w : World} {a : Option Addr} {n c : Nat} {C : List (Int × List UInt8)} (h : Writes w (.slice a n c) C) (k : Nat) (hk : k < C.length) :
    ∃ b off V, a = some ⟨b, off, none⟩ ∧ w.cell? ⟨b, off + k * 2, none⟩ = some (.int .i64 (C.getD k (0, [])).1) ∧ w.cell? ⟨b, off + k * 2 + 1, none⟩ = some V ∧ IsArg w V (C.getD k (0, [])).2 := by
  obtain ⟨X, h1, h2, h3⟩ := h
  obtain ⟨a', c', hs, _⟩ := h2.shape
  cases hs
  obtain ⟨b, off, h4, _, h5⟩ := h2.lit (by rw [wcells_length]; omega)
  have hX : X[k]? = some (X[k]'(by omega)) := List.getElem?_eq_getElem _
  obtain ⟨e1, e2⟩ := wcells_at X k _ hX
  have hy : C[k]? = some (C.getD k (0, [])) := by simp [List.getD_eq_getElem?_getD, hk]
  obtain ⟨e3, e4⟩ := h3 k _ _ hX hy
  refine ⟨b, off, _, h4, ?_, h5 _ _ e2, e4⟩
  rw [← e3]
  exact h5 _ _ e1
theorem writes_nil (w : World) : Writes w (.slice none 0 0) [] := ⟨[], rfl, .inl ⟨rfl, rfl, rfl⟩, fun i V l h => by simp at h⟩

/-- A disk: the two slices of the struct. -/
def IsDisk (w : World) (s c : Value) (S : List (List UInt8)) (C : List (Int × List UInt8)) : Prop := Sects w s S ∧ Writes w c C
theorem IsDisk.below {w w' : World} {s c : Value} {S : List (List UInt8)} {C : List (Int × List UInt8)} (h : IsDisk w s c S C) (hb : Below w.heap.size w w') : IsDisk w' s c S C := ⟨h.1.below hb, h.2.below hb⟩
/-- It isn't great. -/
def FewD (S : List (List UInt8)) (C : List (Int × List UInt8)) : Prop := S.length ≤ 100000 ∧ C.length ≤ 100000 ∧ (∀ l ∈ S, l.length ≤ 100000) ∧ ∀ x ∈ C, x.2.length ≤ 100000
theorem getD_mem {α : Type} (l : List α) (k : Nat) (d : α) (h : k < l.length) : l.getD k d ∈ l := by
  rw [List.getD_eq_getElem?_getD, List.getElem?_eq_getElem h]
  exact List.getElem_mem _

/-- Flags. -/
def IsFlags (w : World) (v : Value) (l : List Bool) : Prop := Held w v l.length (l.map .bool)
theorem IsFlags.below {w w' : World} {v : Value} {l : List Bool} (h : IsFlags w v l) (hb : Below w.heap.size w w') : IsFlags w' v l := Held.below h hb
theorem IsFlags.at {w : World} {a : Option Addr} {n c : Nat} {l : List Bool} (h : IsFlags w (.slice a n c) l) (k : Nat) (hk : k < l.length) :
    ∃ b off, a = some ⟨b, off, none⟩ ∧ w.cell? ⟨b, off + k, none⟩ = some (.bool (l.getD k false)) := by
  have h0 := h
  unfold IsFlags at h0
  obtain ⟨a', c', hs, _⟩ := h0.shape
  cases hs
  obtain ⟨b, off, h4, _, h5⟩ := h0.lit (by simp; omega)
  exact ⟨b, off, h4, h5 k _ (by simp [List.getD_eq_getElem?_getD, hk])⟩
theorem flags_nil (w : World) : IsFlags w (.slice none 0 0) [] := .inl ⟨rfl, rfl, rfl⟩
/-- Numbers. -/
def IsInts (w : World) (v : Value) (l : List Int) : Prop := Held w v l.length (l.map (Value.int .i64)) ∧ ∀ z ∈ l, -9223372036854775808 ≤ z ∧ z ≤ 9223372036854775807
theorem IsInts.below {w w' : World} {v : Value} {l : List Int} (h : IsInts w v l) (hb : Below w.heap.size w w') : IsInts w' v l := ⟨Held.below h.1 hb, h.2⟩
theorem IsInts.at {w : World} {a : Option Addr} {n c : Nat} {l : List Int} (h : IsInts w (.slice a n c) l) (k : Nat) (hk : k < l.length) :
    ∃ b off, a = some ⟨b, off, none⟩ ∧ w.cell? ⟨b, off + k, none⟩ = some (.int .i64 (l.getD k 0)) := by
  have h0 := h.1
  obtain ⟨a', c', hs, _⟩ := h0.shape
  cases hs
  obtain ⟨b, off, h4, _, h5⟩ := h0.lit (by simp; omega)
  exact ⟨b, off, h4, h5 k _ (by simp [List.getD_eq_getElem?_getD, hk])⟩

/-- The box of a struct of two fields: what it holds, kept. -/
theorem box2 {w w' : World} {u v : Value} {t : TypeId} {fr : Nat × Nat} (h : Below (w.alloc (.cells #[u, v] t fr)).heap.size (w.alloc (.cells #[u, v] t fr)) w') : w'.cell? ⟨w.heap.size, 0, none⟩ = some u ∧ w'.cell? ⟨w.heap.size, 1, none⟩ = some v := by
  have h1 := heap_alloc_new w (.cells #[u, v] t fr)
  constructor
  all_goals
    rw [h.cell (by simp)]
    unfold World.cell?
    rw [h1]
    rfl
theorem box2_new (w : World) (u v : Value) (t : TypeId) (fr : Nat × Nat) : (w.alloc (.cells #[u, v] t fr)).cell? ⟨w.heap.size, 0, none⟩ = some u ∧ (w.alloc (.cells #[u, v] t fr)).cell? ⟨w.heap.size, 1, none⟩ = some v := box2 (Below.refl _ _)
theorem kept {w w' : World} {a : Addr} {v : Value} (h : w.cell? a = some v) (hb : Below w.heap.size w w') : w'.cell? a = some v := by
  rw [hb.cell (World.block_lt_of_cell? _ _ h)]; exact h
theorem kept_drew {w w' : World} {a : Addr} {v : Value} (h : w.cell? a = some v) (hb : Below w.drew.heap.size w.drew w') : w'.cell? a = some v := kept (w := w.drew) h hb
theorem far_cell {w : World} {g i : Nat} (a : Addr) (x : Value) (hne : g ≠ a.block) : (w.setCell a x).cell? ⟨g, i, none⟩ = w.cell? ⟨g, i, none⟩ := by
  unfold World.cell?
  rw [Below.heap_setCell w a x g hne]
theorem far2 {w : World} {g q i j : Nat} {x y u v : Value} (hne : g ≠ q) (h : w.cell? ⟨g, 0, none⟩ = some u ∧ w.cell? ⟨g, 1, none⟩ = some v) :
    ((w.setCell ⟨q, i, none⟩ x).setCell ⟨q, j, none⟩ y).cell? ⟨g, 0, none⟩ = some u ∧ ((w.setCell ⟨q, i, none⟩ x).setCell ⟨q, j, none⟩ y).cell? ⟨g, 1, none⟩ = some v := by
  rw [far_cell _ _ hne, far_cell _ _ hne, far_cell _ _ hne, far_cell _ _ hne]
  exact h
theorem kept2 {w w' : World} {g : Nat} {u v : Value} (h : w.cell? ⟨g, 0, none⟩ = some u ∧ w.cell? ⟨g, 1, none⟩ = some v) (hb : Below w.heap.size w w') : w'.cell? ⟨g, 0, none⟩ = some u ∧ w'.cell? ⟨g, 1, none⟩ = some v := ⟨kept h.1 hb, kept h.2 hb⟩
end Go.Proofs.Ytaamjpcpdlanhaa
