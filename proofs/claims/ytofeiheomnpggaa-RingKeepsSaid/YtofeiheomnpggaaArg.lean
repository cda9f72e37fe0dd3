/- Bytes that came in, and rows of the call's own: as arguments; their parts. -/
import Derived.Test.YtofeiheomnpggaaBase
namespace Go.Proofs.Ytofeiheomnpggaa
open Go.RowKit Go.Lib

theorem isArg_of_row {w : World} {g : Nat} {l : List UInt8} {n : Nat} {t : TypeId} {fr : Nat × Nat} (h : w.heap[g]? = some (.cells (byteCells l).toArray t fr)) (hn : l.length = n) (hm : n ≤ maxLen) :
    IsArg w (.slice (some ⟨g, 0, none⟩) n n) l := by
  refine ⟨isBytes_all h hn hm, .inr ⟨⟨g, 0, none⟩, n, by rw [hn], fun j u hu => ?_⟩⟩
  have hj : j < l.length := by have := (List.getElem?_eq_some_iff.1 hu).1; rwa [byteCells_length] at this
  rw [Addr.add_lit, Nat.zero_add, row_cell h hj, ← hu]
  simp only [byteCells, List.getElem?_map, List.getD_eq_getElem?_getD, List.getElem?_eq_getElem hj, Option.map_some, Option.getD_some]

theorem IsArg.below {w w' : World} {v : Value} {l : List UInt8} (h : IsArg w v l) (hb : Below w.heap.size w w') : IsArg w' v l :=
  ⟨h.1.below hb, by
    rcases h.2 with h | ⟨ad, c, h1, h2⟩
    · exact .inl h
    · exact .inr ⟨ad, c, h1, fun i u hu => by
        have h3 := h2 i u hu
        rw [hb.cell (World.block_lt_of_cell? w _ h3)]; exact h3⟩⟩

theorem isArg_new (w : World) (cs : Array Value) (t : TypeId) (fr : Nat × Nat) (l : List UInt8) (n : Nat) (h : cs.toList = byteCells l) (hn : n = l.length) (hm : n ≤ maxLen) :
    IsArg (w.alloc (.cells cs t fr)) (.slice (some ⟨w.heap.size, 0, none⟩) n n) l := by
  have hcs : cs = (byteCells l).toArray := by rw [← h]
  subst hcs
  exact isArg_of_row (heap_alloc_new w _) hn.symm hm

theorem isArg_of_owns {w : World} {base : Nat} {t : TypeId} {v : Value} {l : List UInt8} (h : w.ownsRow base t 1 v l.length (byteCells l)) : IsArg w v l := by
  refine ⟨isBytes_of_owns h, ?_⟩
  rcases h.2 with ⟨rfl, h0⟩ | ⟨g, cap, cur, rfl, _⟩
  · exact .inl ⟨rfl, List.length_eq_zero_iff.1 h0⟩
  · exact .inr ⟨⟨g, 0, none⟩, cap, rfl, fun j u hu => World.ownsRow.cells h rfl j u hu⟩

/-- What stands ahead of a place, of bytes that are read. -/
theorem IsBytes.front {w : World} {a : Option Addr} {l : List UInt8} {N c : Nat} (h : IsBytes w (.slice a N c) l) (n : Nat) (hn : n ≤ l.length) : IsBytes w (.slice a n c) (l.take n) := by
  rcases h with ⟨a0, c0, h1, h2⟩ | ⟨b, off, cap, h1, h2, h3, h4, h5⟩
  · subst h2
    have : n = 0 := by simpa using hn
    subst this
    exact .inl ⟨_, _, rfl, by simp⟩
  · cases h1
    have hl : (l.take n).length = n := by simp; omega
    refine .inr ⟨b, off, c, by rw [hl], by omega, h3, h4, fun i hi => ?_⟩
    rw [hl] at hi
    rw [h5 i (by omega)]
    simp [hi]

/-- .. of bytes that came in. -/
theorem IsArg.ahead {w : World} {a : Option Addr} {l : List UInt8} {N c : Nat} (h : IsArg w (.slice a N c) l) (n : Nat) (hn : n ≤ l.length) : IsArg w (.slice a n c) (l.take n) := by
  refine ⟨h.1.front n hn, ?_⟩
  rcases h.2 with ⟨h1, h2⟩ | ⟨ad, c0, h1, h2⟩
  · subst h2
    have : n = 0 := by simpa using hn
    subst this
    cases h1
    exact .inl ⟨rfl, by simp⟩
  · cases h1
    have hl : (l.take n).length = n := by simp; omega
    refine .inr ⟨ad, c, by rw [hl], fun j u hu => ?_⟩
    have hj : j < (l.take n).length := by have := (List.getElem?_eq_some_iff.1 hu).1; rwa [byteCells_length] at this
    refine h2 j u ?_
    rw [← hu]
    rw [hl] at hj
    simp [byteCells, hj]

theorem IsBytes.cap {w : World} {a : Option Addr} {l : List UInt8} {N c : Nat} (h : IsBytes w (.slice a N c) l) (h0 : l ≠ []) : l.length ≤ c ∧ c ≤ maxLen := by
  rcases h with ⟨_, _, _, h2⟩ | ⟨b, off, cap, h1, h2, h3, _⟩
  · exact absurd h2 h0
  · cases h1; exact ⟨h2, h3⟩

/-- What Le and Be make of a size. -/
def Clamped (z : Int) (k : Nat) : Prop := (z < 0 ∧ k = 0) ∨ (0 ≤ z ∧ z ≤ 8 ∧ z = (k : Int)) ∨ (8 < z ∧ k = 8)

theorem clamped (z : Int) : ∃ k, Clamped z k ∧ k ≤ 8 := by
  unfold Clamped
  by_cases h : z < 0
  · exact ⟨0, .inl ⟨h, rfl⟩, by omega⟩
  · by_cases h2 : 8 < z
    · exact ⟨8, .inr (.inr ⟨h2, rfl⟩), by omega⟩
    · exact ⟨z.toNat, .inr (.inl ⟨by omega, by omega, by omega⟩), by omega⟩

theorem clamped_of (k : Nat) (h : k ≤ 8) : Clamped (k : Int) k := .inr (.inl ⟨by omega, by omega, rfl⟩)

theorem clamped_max {z : Int} {k : Nat} (hz : Clamped z k) : k ≤ maxLen := by
  have : k ≤ 8 := by rcases hz with h | h | h <;> omega
  unfold maxLen; omega
end Go.Proofs.Ytofeiheomnpggaa
