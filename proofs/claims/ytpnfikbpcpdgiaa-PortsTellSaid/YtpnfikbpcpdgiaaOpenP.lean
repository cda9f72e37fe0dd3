/- Arguments opened: ports (three numbers and a slice of bytes); numbers of 64 bits. -/
import Derived.Test.YtpnfikbpcpdgiaaWords
import Derived.Test.YtpnfikbpcpdgiaaOpen
import Derived.Deep.Slices
namespace Go.Proofs.Ytpnfikbpcpdgiaa
open Go.RowKit Go.Lib Go.ChangeShapes Go.WideShapes

theorem open_ports {H : Type} {enc : TypeId × Value → H} {P : Program} {w : World} {base : Nat} {held : Bool} {r : Reach} {b0 : Nat} {t q : TypeId} {f0 f1 f2 f3 : Field} {v : Value} {d : DataW H} {ps : List MemPlace}
    (ht : P.underlying t = some (.struct #[f0, f1, f2, f3])) (hct : P.cellsOf t = 4) (o0 : f0.offset = 0) (o1 : f1.offset = 1) (o2 : f2.offset = 2) (o3 : f3.offset = 3) (c0 : P.cellsOf f0.type = 1) (c1 : P.cellsOf f1.type = 1) (c2 : P.cellsOf f2.type = 1) (c3 : P.cellsOf f3.type = 1)
    (h0 : P.underlying f0.type = some (.int .u32)) (h1 : P.underlying f1.type = some (.int .u32)) (h2 : P.underlying f2.type = some (.int .u64)) (h3 : P.underlying f3.type = some (.slice q)) (hq : P.underlying q = some (.int .u8)) (hcq : P.cellsOf q = 1)
    (hval : Value.okWide P w r b0 t v) (hd : DataW.Trod enc P w base (fun _ => true) held t v d ps) : ∃ (x : Nat) (_ : x < 4294967296) (y : Nat) (_ : y < 4294967296) (z : Nat) (V : Value) (l : List UInt8), v = .agg #[.int .u32 (x : Int), .int .u32 (y : Int), .int .u64 (z : Int), V] ∧ IsArg w V l := by
  obtain ⟨cs, rfl, hsz⟩ := okWide_struct ht hval
  rw [hct] at hsz
  obtain ⟨fuel, hf⟩ := hd
  obtain ⟨xs, n, _, _, _, hl, hfs⟩ := DataW.trod_struct ht hf
  obtain ⟨a, b, c, V, rfl⟩ : ∃ a b c d, cs = #[a, b, c, d] := by
    obtain ⟨l⟩ := cs
    match l, hsz with
    | [a, b, c, d], _ => exact ⟨a, b, c, d, rfl⟩
  have e0 := hfs 0 f0 rfl
  have e1 := hfs 1 f1 rfl
  have e2 := hfs 2 f2 rfl
  have e3 := hfs 3 f3 rfl
  rw [o0, c0] at e0
  rw [o1, c1] at e1
  rw [o2, c2] at e2
  rw [o3, c3] at e3
  have y0 : xs[0]? = some (xs[0]'(by rw [hl]; simp)) := List.getElem?_eq_getElem _
  have y1 : xs[1]? = some (xs[1]'(by rw [hl]; simp)) := List.getElem?_eq_getElem _
  have y2 : xs[2]? = some (xs[2]'(by rw [hl]; simp)) := List.getElem?_eq_getElem _
  have y3 : xs[3]? = some (xs[3]'(by rw [hl]; simp)) := List.getElem?_eq_getElem _
  rw [y0] at e0
  rw [y1] at e1
  rw [y2] at e2
  rw [y3] at e3
  obtain ⟨z0, hz0, _, w0⟩ := DataW.trod_int h0 e0
  obtain ⟨z1, hz1, _, w1⟩ := DataW.trod_int h1 e1
  obtain ⟨z2, hz2, _, w2⟩ := DataW.trod_int h2 e2
  obtain rfl : a = .int .u32 z0 := by simpa [Value.cells] using hz0
  obtain rfl : b = .int .u32 z1 := by simpa [Value.cells] using hz1
  obtain rfl : c = .int .u64 z2 := by simpa [Value.cells] using hz2
  have b0 := bounds_u32 w0
  have b1 := bounds_u32 w1
  have b2 := bounds_u64 w2
  obtain ⟨z0, rfl⟩ := Int.eq_ofNat_of_zero_le b0.1
  obtain ⟨z1, rfl⟩ := Int.eq_ofNat_of_zero_le b1.1
  obtain ⟨z2, rfl⟩ := Int.eq_ofNat_of_zero_le b2.1
  refine ⟨z0, by omega, z1, by omega, z2, V, ?_⟩
  rcases open_ints h3 hq hcq e3 with ⟨hcs, _⟩ | ⟨x, l, c, zs, hcs, _, hl, hm, hz, _, hcell, hwz⟩
  · obtain rfl : V = .slice none 0 0 := by simpa [Value.cells] using hcs
    exact ⟨[], rfl, isArg_nil w⟩
  · obtain rfl : V = .slice (some x) l c := by simpa [Value.cells] using hcs
    exact ⟨_, rfl, isArg_of_ints hl hm (by simpa using hz) hcell hwz⟩
theorem open_words {H : Type} {enc : TypeId × Value → H} {P : Program} {w : World} {base : Nat} {held : Bool} {r : Reach} {b0 : Nat} {t e : TypeId} {v : Value} {d : DataW H} {ps : List MemPlace}
    (ht : P.underlying t = some (.slice e)) (he : P.underlying e = some (.int .u64)) (hc : P.cellsOf e = 1) (hval : Value.okWide P w r b0 t v) (hd : DataW.Trod enc P w base (fun _ => true) held t v d ps) : ∃ l, IsWords w v l := by
  obtain ⟨a, n, c, rfl⟩ := okWide_slice ht hval
  obtain ⟨fuel, hf⟩ := hd
  rcases open_ints ht he hc hf with ⟨hcs, _⟩ | ⟨ad, len, cap, zs, hcs, _, hl, hm, hz, _, hcell, hwz⟩
  · have h : Value.slice a n c = .slice none 0 0 := by simpa [Value.cells] using hcs
    rw [h]
    exact ⟨[], words_nil w⟩
  · have h : Value.slice a n c = .slice (some ad) len cap := by simpa [Value.cells] using hcs
    rw [h]
    have hz : zs.length = cap := by simpa using hz
    have hlt : ((zs.take len).map Int.toNat).length = len := by simp; omega
    refine ⟨(zs.take len).map Int.toNat, .inr ⟨ad, cap, by rw [hlt], by rw [hlt]; exact hl, hm, fun j hj => ?_⟩⟩
    rw [hlt] at hj
    have hj2 : j < zs.length := by omega
    rw [hcell j (by omega)]
    have hb := bounds_u64 (hwz zs[j] (List.getElem_mem hj2))
    simp only [List.getD_eq_getElem?_getD, List.getElem?_map, List.getElem?_take, if_pos hj, List.getElem?_eq_getElem hj2, Option.map_some, Option.getD_some]
    rw [Int.toNat_of_nonneg hb.1]
end Go.Proofs.Ytpnfikbpcpdgiaa
