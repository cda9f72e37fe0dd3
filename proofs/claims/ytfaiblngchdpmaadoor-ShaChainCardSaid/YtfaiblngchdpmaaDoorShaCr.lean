/- Steps of ShaChain: what an append of bytes, or of one text, leaves of rows of texts. -/
import Derived.Test.YtfaiblngchdpmaaDoorShaCq
import Derived.Test.YtfaiblngchdpmaaDoorShaRT
import Derived.Lib.AppendZeros
import Derived.Laws.AppendOwnNone
namespace Go.Proofs.YtfaiblngchdpmaaDoor
open Go.RowKit Go.Lib

theorem append_isArg_run {P : Program} (w : World) (B : Nat) (t ty e : TypeId) (i : TypeInfo) (z : Value) (ht : P.underlying t = some (.slice e)) (hi : P.info? e = some i) (hz : i.zero = some z)
    (hsize : i.size = 1) (hby : i.bytes = 1) (hzs : z.cells.size = 1) (v : Value) (n : Nat) (xs : List Value) (hown : w.ownsRow B e 1 v n xs) (V : Value) (l : List UInt8)
    (hV : (V = .slice none 0 0 ∧ l = []) ∨ ∃ ad c, V = .slice (some ad) l.length c ∧ ∀ j u, (byteCells l)[j]? = some u → w.cell? (ad.add j) = some u) (hn : n + l.length ≤ 140737488355328) (hB : B ≤ w.heap.size) :
    ∃ v' w', (Builtin.append_ #[t, t] ty #[v, V]).run P w = .ok v' w' ∧ w'.ownsRow B e 1 v' (n + l.length) (xs ++ byteCells l) ∧ w.grownBy w' v.ownBlock := by
  rcases hV with ⟨rfl, rfl⟩ | ⟨ad, c, rfl, hnews⟩
  · exact ⟨v, w, run_append_owned_none (P := P) (w := w) B t ty e i 1 ht hi v n xs hown, by simpa [byteCells] using hown, World.grownBy.refl w _⟩
  · obtain ⟨v', w', h1, h2, h3, _⟩ := run_append_own (P := P) w B t ty e i z 1 1 ht hi hz hsize hby hzs (by decide) v n xs hown ad l.length c (byteCells l) (by simp [byteCells]) hnews (byteCells_one l) (by unfold maxLen; omega) (by omega) hB
    exact ⟨v', w', h1, h2, h3⟩
theorem Texts.block {B : Nat} {w : World} {v : Value} {n : Nat} {xs : List Value} {Z : Nat → List UInt8} (h : Texts B w v n xs Z) {k : Nat} (hk : v.ownBlock = some k) : ∃ cur, w.heap[k]? = some (.cells cur 24 (0, 0)) ∧ B ≤ k := by
  rcases h.1.2 with ⟨rfl, _⟩ | ⟨g, cap, cur, rfl, hb, hg, _⟩
  · cases hk
  · cases hk
    exact ⟨cur, hg, hb⟩
theorem Texts.ne {B : Nat} {w : World} {v : Value} {n : Nat} {xs : List Value} {Z : Nat → List UInt8} (h : Texts B w v n xs Z) {k : Nat} {t : TypeId} {cur : Array Value} (hk : w.heap[k]? = some (.cells cur t (0, 0))) (ht : t ≠ 24) : some k ≠ v.ownBlock := fun e => by
  obtain ⟨c2, h2, _⟩ := h.block e.symm
  exact ht (block_type hk h2)
theorem Texts.step {B L : Nat} {w w' : World} {v v' u : Value} {i : Nat} {xs : List Value} {Z : Nat → List UInt8} (h : Texts B w v i xs Z) (hg : w.grownBy w' v.ownBlock)
    (ho : w'.ownsRow B 24 1 v' (i + 1) (xs ++ [u])) (hu : w'.ownsRow L 5 1 u (Z i).length (byteCells (Z i))) (hL : B ≤ L) : Texts B w' v' (i + 1) (xs ++ [u]) Z := by
  have hx := h.len
  refine ⟨ho, fun j x hj => ?_⟩
  by_cases hlt : j < xs.length
  · rw [List.getElem?_append_left hlt] at hj
    exact ownsRow_keep (h.2 j x hj) (fun k cur _ hk => (hg.block k (Array.getElem?_eq_some_iff.1 hk).1 (h.ne hk (by decide))).trans hk)
  · rw [List.getElem?_append_right (by omega)] at hj
    obtain ⟨h0, rfl⟩ : j - xs.length = 0 ∧ x = u := by
      cases hq : j - xs.length with
      | zero => rw [hq] at hj; simp at hj; exact ⟨rfl, hj.symm⟩
      | succ q => rw [hq] at hj; simp at hj
    obtain rfl : j = i := by omega
    refine ⟨hu.1, ?_⟩
    rcases hu.2 with hn | ⟨g, cap, cur, e, hb, r⟩
    · exact .inl hn
    · exact .inr ⟨g, cap, cur, e, by omega, r⟩
theorem Texts.other {B : Nat} {w w' : World} {v y : Value} {i j : Nat} {xs ys : List Value} {Z Z' : Nat → List UInt8} (hy : Texts B w y j ys Z') (h : Texts B w v i xs Z) (hg : w.grownBy w' v.ownBlock)
    (hne : ∀ k, v.ownBlock = some k → y.ownBlock ≠ some k) : Texts B w' y j ys Z' :=
  hy.keep (fun k cur hk hc => (hg.block k (Array.getElem?_eq_some_iff.1 hc).1 (fun e => hne k e.symm hk)).trans hc)
    (fun k cur hc => (hg.block k (Array.getElem?_eq_some_iff.1 hc).1 (h.ne hc (by decide))).trans hc)
theorem infoText : (Tryd.prog.info? 24).map (fun i => (i.zero, i.size, i.bytes)) = some (some (.slice none 0 0), 1, 24) := by kernel_rfl
theorem text_parts : ∃ i, Tryd.prog.info? 24 = some i ∧ i.zero = some (.slice none 0 0) ∧ i.size = 1 ∧ i.bytes = 24 := by
  have h := infoText
  cases hq : Tryd.prog.info? 24 with
  | none => rw [hq] at h; cases h
  | some i =>
    rw [hq] at h
    simp only [Option.map_some, Option.some.injEq, Prod.mk.injEq] at h
    exact ⟨i, rfl, h.1, h.2.1, h.2.2⟩
theorem one_of_owns {w : World} {L : Nat} {t : TypeId} {s n : Nat} {u : Value} {xs : List Value} (h : w.ownsRow L t s u n xs) : u.oneCell' = true := by
  rcases h.2 with ⟨rfl, _⟩ | ⟨g, cap, cur, rfl, _⟩ <;> rfl
/-- One text more: the append of bytes to what was made. -/
theorem bytes_step {w : World} {L n : Nat} {v : Value} {k : List UInt8} (h : w.ownsRow L 5 1 v n (byteCells k)) (ty : TypeId) (V : Value) (l : List UInt8)
    (hV : (V = .slice none 0 0 ∧ l = []) ∨ ∃ ad c, V = .slice (some ad) l.length c ∧ ∀ j u, (byteCells l)[j]? = some u → w.cell? (ad.add j) = some u) (hn : n + l.length ≤ 140737488355328) (hL : L ≤ w.heap.size) :
    ∃ v' w', (Builtin.append_ #[24, 24] ty #[v, V]).run Tryd.prog w = .ok v' w' ∧ w'.ownsRow L 5 1 v' (n + l.length) (byteCells (k ++ l)) ∧ w.grownBy w' v.ownBlock := by
  obtain ⟨i0, hi, hz0, hz1, hz2⟩ := info_parts info8
  rw [byteCells_append]
  exact append_isArg_run (P := Tryd.prog) w L 24 ty 5 i0 (.int .u8 0) Tryd.underlying24 hi hz0 hz1 hz2 rfl v n (byteCells k) h V l hV hn hL
theorem text_step {w : World} {B n : Nat} {v : Value} {xs : List Value} (h : w.ownsRow B 24 1 v n xs) (ty : TypeId) (g : Nat) (u : Value) (hu : u.oneCell' = true) (hg : w.heap[g]? = some (.cells #[u] 24 (0, 0))) (hn : n ≤ 1000) (hB : B ≤ w.heap.size) :
    ∃ v' w', (Builtin.append_ #[40, 40] ty #[v, .slice (some ⟨g, 0, none⟩) 1 1]).run Tryd.prog w = .ok v' w' ∧ w'.ownsRow B 24 1 v' (n + 1) (xs ++ [u]) ∧ w.grownBy w' v.ownBlock ∧ (v'.ownBlock = v.ownBlock ∨ ∀ k, v'.ownBlock = some k → w.heap.size ≤ k) := by
  obtain ⟨j0, hj, hj0, hj1, hj2⟩ := text_parts
  exact append_one (P := Tryd.prog) w B 40 ty 24 j0 (.slice none 0 0) Tryd.underlying40 hj hj0 hj1 hj2 rfl v n xs h g u hu hg hn hB
theorem grown_after {w w1 w2 : World} {row : Option Nat} (hb : Below w.heap.size w w1) (hg : w1.grownBy w2 row) : w.grownBy w2 row :=
  ⟨hg.os.trans hb.os, hg.tape.trans hb.tape, hg.output.trans hb.output, Nat.le_trans hb.size hg.size, fun k hk hne => (hg.block k (Nat.lt_of_lt_of_le hk hb.size) hne).trans (hb.block k hk)⟩
theorem texts_keep8 {B L n m : Nat} {w w' : World} {v u : Value} {xs ys : List Value} (h : w.ownsRow B 24 1 v n xs) (hg : w.grownBy w' v.ownBlock) (hu : w.ownsRow L 5 1 u m ys) : w'.ownsRow L 5 1 u m ys :=
  ownsRow_keep hu (fun k cur _ hk => (hg.block k (Array.getElem?_eq_some_iff.1 hk).1 (fun e => by
    rcases h.2 with ⟨rfl, _⟩ | ⟨g, cap, c2, rfl, _, hh, _⟩
    · cases e
    · cases e
      exact absurd (block_type hk hh) (by decide))).trans hk)
end Go.Proofs.YtfaiblngchdpmaaDoor
