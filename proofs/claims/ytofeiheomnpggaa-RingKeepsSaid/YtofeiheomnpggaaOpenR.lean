/- Arguments opened: a descriptor of a ring (four numbers), a used one (two). -/
import Derived.Test.YtofeiheomnpggaaOpenM
import Derived.Deep.Slices
namespace Go.Proofs.Ytofeiheomnpggaa
open Go.RowKit Go.Lib Go.ChangeShapes Go.WideShapes

theorem open_desc {H : Type} {enc : TypeId × Value → H} {P : Program} {w : World} {base : Nat} {held : Bool} {r : Reach} {b0 : Nat} {t : TypeId} {f0 f1 f2 f3 : Field} {v : Value} {d : DataW H} {ps : List MemPlace}
    (ht : P.underlying t = some (.struct #[f0, f1, f2, f3])) (hct : P.cellsOf t = 4) (o0 : f0.offset = 0) (o1 : f1.offset = 1) (o2 : f2.offset = 2) (o3 : f3.offset = 3) (c0 : P.cellsOf f0.type = 1) (c1 : P.cellsOf f1.type = 1) (c2 : P.cellsOf f2.type = 1) (c3 : P.cellsOf f3.type = 1)
    (h0 : P.underlying f0.type = some (.int .u64)) (h1 : P.underlying f1.type = some (.int .u32)) (h2 : P.underlying f2.type = some (.int .u16)) (h3 : P.underlying f3.type = some (.int .u16))
    (hval : Value.okWide P w r b0 t v) (hd : DataW.Trod enc P w base (fun _ => true) held t v d ps) : ∃ (x : Nat) (_ : x < 18446744073709551616) (y : Nat) (_ : y < 4294967296) (z : Nat) (_ : z < 65536) (q : Nat) (_ : q < 65536), v = .agg #[.int .u64 (x : Int), .int .u32 (y : Int), .int .u16 (z : Int), .int .u16 (q : Int)] := by
  obtain ⟨cs, rfl, hsz⟩ := okWide_struct ht hval
  rw [hct] at hsz
  obtain ⟨fuel, hf⟩ := hd
  obtain ⟨xs, n, _, _, _, hl, hfs⟩ := DataW.trod_struct ht hf
  obtain ⟨a, b, c, e, rfl⟩ : ∃ a b c d, cs = #[a, b, c, d] := by
    obtain ⟨l⟩ := cs
    match l, hsz with
    | [a, b, c, d], _ => exact ⟨a, b, c, d, rfl⟩
  have e0 := hfs 0 f0 rfl
  have e1 := hfs 1 f1 rfl
  have e2 := hfs 2 f2 rfl
  have e3 := hfs 3 f3 rfl
  rw [o0, c0] at e0
  rw [o1, c1] at e1
  rw [o2, c2] at e2
  rw [o3, c3] at e3
  have y0 : xs[0]? = some (xs[0]'(by rw [hl]; simp)) := List.getElem?_eq_getElem _
  have y1 : xs[1]? = some (xs[1]'(by rw [hl]; simp)) := List.getElem?_eq_getElem _
  have y2 : xs[2]? = some (xs[2]'(by rw [hl]; simp)) := List.getElem?_eq_getElem _
  have y3 : xs[3]? = some (xs[3]'(by rw [hl]; simp)) := List.getElem?_eq_getElem _
  rw [y0] at e0
  rw [y1] at e1
  rw [y2] at e2
  rw [y3] at e3
  obtain ⟨z0, hz0, _, w0⟩ := DataW.trod_int h0 e0
  obtain ⟨z1, hz1, _, w1⟩ := DataW.trod_int h1 e1
  obtain ⟨z2, hz2, _, w2⟩ := DataW.trod_int h2 e2
  obtain ⟨z3, hz3, _, w3⟩ := DataW.trod_int h3 e3
  obtain rfl : a = .int .u64 z0 := by simpa [Value.cells] using hz0
  obtain rfl : b = .int .u32 z1 := by simpa [Value.cells] using hz1
  obtain rfl : c = .int .u16 z2 := by simpa [Value.cells] using hz2
  obtain rfl : e = .int .u16 z3 := by simpa [Value.cells] using hz3
  have b0 := bounds_u64 w0
  have b1 := bounds_u32 w1
  have b2 := bounds_u16 w2
  have b3 := bounds_u16 w3
  obtain ⟨z0, rfl⟩ := Int.eq_ofNat_of_zero_le b0.1
  obtain ⟨z1, rfl⟩ := Int.eq_ofNat_of_zero_le b1.1
  obtain ⟨z2, rfl⟩ := Int.eq_ofNat_of_zero_le b2.1
  obtain ⟨z3, rfl⟩ := Int.eq_ofNat_of_zero_le b3.1
  exact ⟨z0, by omega, z1, by omega, z2, by omega, z3, by omega, rfl⟩
theorem open_used {H : Type} {enc : TypeId × Value → H} {P : Program} {w : World} {base : Nat} {held : Bool} {r : Reach} {b0 : Nat} {t : TypeId} {f0 f1 : Field} {v : Value} {d : DataW H} {ps : List MemPlace}
    (ht : P.underlying t = some (.struct #[f0, f1])) (hct : P.cellsOf t = 2) (o0 : f0.offset = 0) (o1 : f1.offset = 1) (c0 : P.cellsOf f0.type = 1) (c1 : P.cellsOf f1.type = 1)
    (h0 : P.underlying f0.type = some (.int .u32)) (h1 : P.underlying f1.type = some (.int .u32))
    (hval : Value.okWide P w r b0 t v) (hd : DataW.Trod enc P w base (fun _ => true) held t v d ps) : ∃ (x : Nat) (_ : x < 4294967296) (y : Nat) (_ : y < 4294967296), v = .agg #[.int .u32 (x : Int), .int .u32 (y : Int)] := by
  obtain ⟨cs, rfl, hsz⟩ := okWide_struct ht hval
  rw [hct] at hsz
  obtain ⟨fuel, hf⟩ := hd
  obtain ⟨xs, n, _, _, _, hl, hfs⟩ := DataW.trod_struct ht hf
  obtain ⟨a, b, rfl⟩ : ∃ a b, cs = #[a, b] := by
    obtain ⟨l⟩ := cs
    match l, hsz with
    | [a, b], _ => exact ⟨a, b, rfl⟩
  have e0 := hfs 0 f0 rfl
  have e1 := hfs 1 f1 rfl
  rw [o0, c0] at e0
  rw [o1, c1] at e1
  have y0 : xs[0]? = some (xs[0]'(by rw [hl]; simp)) := List.getElem?_eq_getElem _
  have y1 : xs[1]? = some (xs[1]'(by rw [hl]; simp)) := List.getElem?_eq_getElem _
  rw [y0] at e0
  rw [y1] at e1
  obtain ⟨z0, hz0, _, w0⟩ := DataW.trod_int h0 e0
  obtain ⟨z1, hz1, _, w1⟩ := DataW.trod_int h1 e1
  obtain rfl : a = .int .u32 z0 := by simpa [Value.cells] using hz0
  obtain rfl : b = .int .u32 z1 := by simpa [Value.cells] using hz1
  have b0 := bounds_u32 w0
  have b1 := bounds_u32 w1
  obtain ⟨z0, rfl⟩ := Int.eq_ofNat_of_zero_le b0.1
  obtain ⟨z1, rfl⟩ := Int.eq_ofNat_of_zero_le b1.1
  exact ⟨z0, by omega, z1, by omega, rfl⟩
end Go.Proofs.Ytofeiheomnpggaa
