/- 'append(s, xs...)' at a step of a region that draws: s the call's own, xs bytes that came in (nil or not); where another type's block lies behind an append. -/
import Derived.Test.YtpnfikbpcpdgiaaAppW
namespace Go.Proofs.Ytpnfikbpcpdgiaa
open Go.RowKit Go.Lib

theorem step_append_isArg {P : Program} (w : World) {ops : Array Oper} {o : Oper} {a : Act} {K : Act → World → Prop} {Q : Exit → Act → World → Prop} {E : Prop} (hgd : o.guard = none) (s x : Operand) (t : TypeId)
    (ho : o.op = .call { callee := .builtin .append, args := #[s, x], argTypes := #[t, t] })
    (base : Nat) (e : TypeId) (i : TypeInfo) (z : Value) (ht : P.underlying t = some (.slice e)) (hi : P.info? e = some i) (hz : i.zero = some z)
    (hsize : i.size = 1) (hby : i.bytes = 1) (hzs : z.cells.size = 1)
    (v : Value) (n : Nat) (xs : List Value) (hs : a.eval s = v) (hown : w.ownsRow base e 1 v n xs)
    (V : Value) (l : List UInt8) (hx : a.eval x = V) (hV : (V = .slice none 0 0 ∧ l = []) ∨ ∃ ad c, V = .slice (some ad) l.length c ∧ ∀ j u, (byteCells l)[j]? = some u → w.cell? (ad.add j) = some u)
    (h63 : n + l.length ≤ 140737488355328) (hbase : base ≤ w.heap.size)
    (h : ∀ v' w', w'.ownsRow base e 1 v' (n + l.length) (xs ++ byteCells l) → w.grownBy w' v.ownBlock → K (a.put o.dst v') w') : if Region.wanted o (yielded ops a.tmps) = true then Oper.wp P o a w K Q else E := by
  have hw : Region.wanted o (yielded ops a.tmps) = true := by simp [Region.wanted, hgd]
  rw [if_pos hw]
  rcases hV with ⟨rfl, rfl⟩ | ⟨ad, c, rfl, hnews⟩
  · have hrun := run_append_owned_none (P := P) (w := w) base t o.type e i 1 ht hi v n xs hown
    unfold Oper.wp
    simp [execOp, ho, resolve, invoke, builtin, hs, hx, hrun, Result.andThen]
    exact h v w (by simpa [byteCells] using hown) (World.grownBy.refl w _)
  · exact wp_append_own w s x t ho base e i z 1 1 ht hi hz hsize hby hzs (by decide) v n xs hs hown ad l.length c (byteCells l) hx (by simp [byteCells]) hnews (byteCells_one l)
      (by unfold maxLen; omega) (by omega) hbase (fun v' w' h1 h2 _ => h v' w' h1 h2)
/-- A block of another type stays where a slice of one's own is appended to. -/
theorem other_grown {W W1 : World} {M n k s : Nat} {T : TypeId} {cv : Value} {xs : List Value} {cur : Array Value} {t : TypeId} {f : Nat × Nat} (hcv : W.ownsRow M T s cv n xs) (hg : W.grownBy W1 cv.ownBlock) (h : W.heap[k]? = some (.cells cur t f)) (ht : t ≠ T) : W1.heap[k]? = some (.cells cur t f) := by
  refine (hg.block k (Array.getElem?_eq_some_iff.1 h).1 (fun e => ?_)).trans h
  rcases hcv.2 with ⟨rfl, _⟩ | ⟨g, cap, c2, rfl, _, hh, _⟩
  · cases e
  · have e : k = g := by simpa [Value.ownBlock] using e
    subst e
    rw [h] at hh
    injection hh with hh
    injection hh with _ hh _
    exact ht hh
end Go.Proofs.Ytpnfikbpcpdgiaa
