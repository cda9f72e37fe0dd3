/- 'append(s, xs...)' behind a guard that says yes: s the call's own, xs bytes that came in (nil or not). -/
import Derived.Test.YtpnfikbpcpdgiaaBase
import Derived.BigFrame
namespace Go.Proofs.Ytpnfikbpcpdgiaa
open Go.RowKit Go.Lib

theorem wpList_append_isArg_want {P : Program} (w : World) {ops : Array Oper} {rest : List Oper} {o : Oper} {a : Act} {Q : Exit → Act → World → Prop} (hw : Region.wanted o (yielded ops a.tmps) = true) (s x : Operand) (t : TypeId)
    (ho : o.op = .call { callee := .builtin .append, args := #[s, x], argTypes := #[t, t] })
    (base : Nat) (e : TypeId) (i : TypeInfo) (z : Value) (ht : P.underlying t = some (.slice e)) (hi : P.info? e = some i) (hz : i.zero = some z)
    (hsize : i.size = 1) (hby : i.bytes = 1) (hzs : z.cells.size = 1)
    (v : Value) (n : Nat) (xs : List Value) (hs : a.eval s = v) (hown : w.ownsRow base e 1 v n xs)
    (V : Value) (l : List UInt8) (hx : a.eval x = V) (hV : (V = .slice none 0 0 ∧ l = []) ∨ ∃ ad c, V = .slice (some ad) l.length c ∧ ∀ j u, (byteCells l)[j]? = some u → w.cell? (ad.add j) = some u)
    (h63 : n + l.length ≤ 140737488355328) (hbase : base ≤ w.heap.size)
    (h : ∀ v' w', w'.ownsRow base e 1 v' (n + l.length) (xs ++ byteCells l) → w.grownBy w' v.ownBlock → wpList P ops Q rest (a.put o.dst v') w') : wpList P ops Q (o :: rest) a w := by
  refine BigFrame.wpList_want hw fun K hK => ?_
  rcases hV with ⟨rfl, rfl⟩ | ⟨ad, c, rfl, hnews⟩
  · have hrun := run_append_owned_none (P := P) (w := w) base t o.type e i 1 ht hi v n xs hown
    unfold Oper.wp
    simp [execOp, ho, resolve, invoke, builtin, hs, hx, hrun, Result.andThen]
    exact hK _ _ (h v w (by simpa [byteCells] using hown) (World.grownBy.refl w _))
  · exact wp_append_own w s x t ho base e i z 1 1 ht hi hz hsize hby hzs (by decide) v n xs hs hown ad l.length c (byteCells l) hx (by simp [byteCells]) hnews (byteCells_one l)
      (by unfold maxLen; omega) (by omega) hbase (fun v' w' h1 h2 _ => hK _ _ (h v' w' h1 h2))
end Go.Proofs.Ytpnfikbpcpdgiaa
