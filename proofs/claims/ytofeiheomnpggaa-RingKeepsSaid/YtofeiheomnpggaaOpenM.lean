/- An argument that is a struct of one field, a slice of bytes. -/
import Derived.Test.YtofeiheomnpggaaOpen
namespace Go.Proofs.Ytofeiheomnpggaa
open Go.RowKit Go.Lib Go.ChangeShapes Go.WideShapes

theorem open_bytes_struct {H : Type} {enc : TypeId × Value → H} {P : Program} {w : World} {base : Nat} {held : Bool} {r : Reach} {b0 : Nat} {t q : TypeId} {f : Field} {v : Value} {d : DataW H} {ps : List MemPlace}
    (ht : P.underlying t = some (.struct #[f])) (he : P.underlying f.type = some (.slice q)) (hq : P.underlying q = some (.int .u8)) (hcq : P.cellsOf q = 1) (hct : P.cellsOf t = 1) (hce : P.cellsOf f.type = 1) (ho : f.offset = 0)
    (hval : Value.okWide P w r b0 t v) (hd : DataW.Trod enc P w base (fun _ => true) held t v d ps) : ∃ V l, v = .agg #[V] ∧ IsArg w V l := by
  obtain ⟨cs, rfl, hsz⟩ := okWide_struct ht hval
  rw [hct] at hsz
  obtain ⟨fuel, hf⟩ := hd
  obtain ⟨xs, n, _, _, _, hl, hfs⟩ := DataW.trod_struct ht hf
  have h0 := hfs 0 f rfl
  have hx : xs[0]? = some (xs[0]'(by rw [hl]; exact Nat.zero_lt_one)) := List.getElem?_eq_getElem _
  rw [hx, ho, hce] at h0
  obtain ⟨V, rfl⟩ : ∃ V, cs = #[V] := by
    obtain ⟨l⟩ := cs
    match l, hsz with
    | [V], _ => exact ⟨V, rfl⟩
  refine ⟨V, ?_⟩
  rcases open_ints he hq hcq h0 with ⟨hcs, _⟩ | ⟨x, l, c, zs, hcs, _, hl, hm, hz, _, hcell, hwz⟩
  · simp [Value.cells] at hcs
    subst hcs
    exact ⟨[], rfl, isArg_nil w⟩
  · simp [Value.cells] at hcs
    subst hcs
    exact ⟨_, rfl, isArg_of_ints hl hm (by simpa using hz) hcell hwz⟩
end Go.Proofs.Ytofeiheomnpggaa
