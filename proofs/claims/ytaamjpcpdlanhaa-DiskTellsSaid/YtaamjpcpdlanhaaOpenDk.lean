/- Arguments opened: a disk; flags; numbers. -/
import Derived.Test.YtaamjpcpdlanhaaDskR
import Derived.Test.YtaamjpcpdlanhaaOpen
import Derived.Deep.Slices
import Derived.Deep.Grids
namespace Go.Proofs.Ytaamjpcpdlanhaa
open Go.RowKit Go.Lib Go.ChangeShapes Go.WideShapes

section
variable {H : Type} {enc : TypeId × Value → H} {P : Program} {w : World} {base : Nat} {held : Bool}
theorem arg_of_trod {e q : TypeId} {fuel : Nat} {V : Value} {x : DataW H × List MemPlace} (he : P.underlying e = some (.slice q)) (hq : P.underlying q = some (.int .u8)) (hcq : P.cellsOf q = 1)
    (h : DataW.trod enc P w base (fun _ => true) held fuel e [V] = some x) : ∃ l, IsArg w V l := by
  rcases open_ints he hq hcq h with ⟨hcs, _⟩ | ⟨x, l, c, zs, hcs, _, hl, hm, hz, _, hcell, hwz⟩
  · obtain rfl : V = .slice none 0 0 := by simpa using hcs
    exact ⟨[], isArg_nil w⟩
  · obtain rfl : V = .slice (some x) l c := by simpa using hcs
    exact ⟨_, isArg_of_ints hl hm (by simpa using hz) hcell hwz⟩
theorem range_at {α : Type} (f : Nat → α) {n i : Nat} (h : i < n) : ((List.range n).map f)[i]? = some (f i) := by
  rw [List.getElem?_map, List.getElem?_range h]
  rfl
theorem range_some {α : Type} (f : Nat → α) {n i : Nat} {u : α} (h : ((List.range n).map f)[i]? = some u) : i < n ∧ u = f i := by
  have hi : i < n := by have := (List.getElem?_eq_some_iff.1 h).1; simpa using this
  rw [range_at f hi] at h
  exact ⟨hi, (Option.some.inj h).symm⟩
theorem open_sects {t e q : TypeId} {fuel : Nat} {v : Value} {x : DataW H × List MemPlace} (ht : P.underlying t = some (.slice e)) (he : P.underlying e = some (.slice q)) (hq : P.underlying q = some (.int .u8)) (hce : P.cellsOf e = 1) (hcq : P.cellsOf q = 1)
    (h : DataW.trod enc P w base (fun _ => true) held fuel t [v] = some x) : ∃ S, Sects w v S := by
  rcases Go.Deep.open_slice1 ht hce h with ⟨hcs, _⟩ | ⟨ad, len, cap, m, n, V, D, Pl, hcs, _, hl, hm, hmm, _, hx⟩
  · obtain rfl : v = .slice none 0 0 := by simpa using hcs
    exact ⟨[], rows_nil w⟩
  · obtain rfl : v = .slice (some ad) len cap := by simpa using hcs
    simp only [if_true] at hmm
    have each : ∀ i, i < len → ∃ l, IsArg w (V i) l := fun i hi => arg_of_trod he hq hcq (hx i (by omega)).2
    refine ⟨(List.range len).map fun i => if hi : i < len then (each i hi).choose else [], (List.range len).map V, by simp, .inr ⟨ad, cap, by simp, by simpa using hl, hm, fun j u hu => ?_⟩, fun i u l hu hl => ?_⟩
    · obtain ⟨hj, rfl⟩ := range_some V hu
      exact (hx j (by omega)).1
    · obtain ⟨hi, rfl⟩ := range_some V hu
      obtain ⟨_, rfl⟩ := range_some _ hl
      simp only [dif_pos hi]
      exact (each i hi).choose_spec
theorem open_writes {t e q : TypeId} {f0 f1 : Field} {fuel : Nat} {v : Value} {x : DataW H × List MemPlace} (ht : P.underlying t = some (.slice e)) (he : P.underlying e = some (.struct #[f0, f1])) (hce : P.cellsOf e = 2)
    (h0 : P.underlying f0.type = some (.int .i64)) (o0 : f0.offset = 0) (c0 : P.cellsOf f0.type = 1) (h1 : P.underlying f1.type = some (.slice q)) (o1 : f1.offset = 1) (c1 : P.cellsOf f1.type = 1) (hq : P.underlying q = some (.int .u8)) (hcq : P.cellsOf q = 1)
    (h : DataW.trod enc P w base (fun _ => true) held fuel t [v] = some x) : ∃ C, Writes w v C := by
  rcases Go.Deep.open_slice ht h with ⟨hcs, _⟩ | ⟨ad, len, cap, m, n, D, Pl, hcs, _, hl, hm, hmm, _, hx⟩
  · obtain rfl : v = .slice none 0 0 := by simpa using hcs
    exact ⟨[], writes_nil w⟩
  · obtain rfl : v = .slice (some ad) len cap := by simpa using hcs
    simp only [if_true] at hmm
    have each : ∀ i, i < len → ∃ y : Int × Value × List UInt8, w.cell? (ad.add (i * 2)) = some (.int .i64 y.1) ∧ w.cell? (ad.add (i * 2 + 1)) = some y.2.1 ∧ IsArg w y.2.1 y.2.2 := fun i hi => by
      obtain ⟨cs', hc, ht'⟩ := hx i (by omega)
      rw [hce] at hc
      obtain ⟨_, hcl, hat⟩ := World.cells?_some hc
      obtain ⟨ys, n', _, _, _, hyl, hf⟩ := DataW.trod_struct he ht'
      obtain ⟨u, V, rfl⟩ : ∃ u V, cs' = [u, V] := by
        match cs', hcl with
        | [u, V], _ => exact ⟨u, V, rfl⟩
      have e0 := hf 0 f0 rfl
      have e1 := hf 1 f1 rfl
      rw [o0, c0] at e0
      rw [o1, c1] at e1
      have y0 : ys[0]? = some (ys[0]'(by rw [hyl]; simp)) := List.getElem?_eq_getElem _
      have y1 : ys[1]? = some (ys[1]'(by rw [hyl]; simp)) := List.getElem?_eq_getElem _
      rw [y0] at e0
      rw [y1] at e1
      obtain ⟨z, hz, _, _⟩ := DataW.trod_int h0 e0
      obtain ⟨l, hl'⟩ := arg_of_trod h1 hq hcq e1
      obtain rfl : u = .int .i64 z := by simpa using hz
      have a0 := hat 0 (by decide)
      have a1 := hat 1 (by decide)
      rw [Addr.add_zero'] at a0
      rw [Addr.add_add] at a1
      exact ⟨(z, V, l), a0, a1, hl'⟩
    obtain ⟨f, hf⟩ : ∃ f : Nat → Int × Value × List UInt8, ∀ i, i < len → w.cell? (ad.add (i * 2)) = some (.int .i64 (f i).1) ∧ w.cell? (ad.add (i * 2 + 1)) = some (f i).2.1 ∧ IsArg w (f i).2.1 (f i).2.2 :=
      ⟨fun i => if hi : i < len then (each i hi).choose else (0, .slice none 0 0, []), fun i hi => by simp only [dif_pos hi]; exact (each i hi).choose_spec⟩
    refine ⟨(List.range len).map fun i => ((f i).1, (f i).2.2), (List.range len).map fun i => ((f i).1, (f i).2.1), by simp, .inr ⟨ad, cap, by simp, by simpa using hl, hm, fun j u hu => ?_⟩, fun i y z hy hz => ?_⟩
    · have hj : j < len * 2 := by
        have := (List.getElem?_eq_some_iff.1 hu).1
        rw [wcells_length] at this
        simpa using this
      obtain ⟨e1, e2⟩ := wcells_at _ (j / 2) _ (range_at (fun i => ((f i).1, (f i).2.1)) (show j / 2 < len by omega))
      obtain ⟨g1, g2, _⟩ := hf (j / 2) (by omega)
      by_cases hp : j % 2 = 0
      · rw [show j / 2 * 2 = j by omega] at e1 g1
        rw [e1] at hu
        rw [g1]
        exact hu
      · rw [show j / 2 * 2 + 1 = j by omega] at e2 g2
        rw [e2] at hu
        rw [g2]
        exact hu
    · obtain ⟨hi, rfl⟩ := range_some (fun i => ((f i).1, (f i).2.1)) hy
      obtain ⟨_, rfl⟩ := range_some (fun i => ((f i).1, (f i).2.2)) hz
      exact ⟨rfl, (hf i hi).2.2⟩
end
theorem open_disk {H : Type} {enc : TypeId × Value → H} {P : Program} {w : World} {base : Nat} {held : Bool} {r : Reach} {b0 : Nat} {t e q s : TypeId} {f0 f1 g0 g1 : Field} {v : Value} {d : DataW H} {ps : List MemPlace}
    (ht : P.underlying t = some (.struct #[f0, f1])) (hct : P.cellsOf t = 2) (o0 : f0.offset = 0) (o1 : f1.offset = 1) (c0 : P.cellsOf f0.type = 1) (c1 : P.cellsOf f1.type = 1)
    (h0 : P.underlying f0.type = some (.slice s)) (hs : P.underlying s = some (.slice q)) (hcs : P.cellsOf s = 1) (h1 : P.underlying f1.type = some (.slice e)) (he : P.underlying e = some (.struct #[g0, g1])) (hce : P.cellsOf e = 2)
    (k0 : P.underlying g0.type = some (.int .i64)) (p0 : g0.offset = 0) (q0 : P.cellsOf g0.type = 1) (k1 : P.underlying g1.type = some (.slice q)) (p1 : g1.offset = 1) (q1 : P.cellsOf g1.type = 1) (hq : P.underlying q = some (.int .u8)) (hcq : P.cellsOf q = 1)
    (hval : Value.okWide P w r b0 t v) (hd : DataW.Trod enc P w base (fun _ => true) held t v d ps) : ∃ x y S C, v = .agg #[x, y] ∧ IsDisk w x y S C := by
  obtain ⟨cs, rfl, hsz⟩ := okWide_struct ht hval
  rw [hct] at hsz
  obtain ⟨fuel, hf⟩ := hd
  obtain ⟨xs, n, _, _, _, hl, hfs⟩ := DataW.trod_struct ht hf
  obtain ⟨x, y, rfl⟩ : ∃ x y, cs = #[x, y] := by
    obtain ⟨l⟩ := cs
    match l, hsz with
    | [x, y], _ => exact ⟨x, y, rfl⟩
  have e0 := hfs 0 f0 rfl
  have e1 := hfs 1 f1 rfl
  rw [o0, c0] at e0
  rw [o1, c1] at e1
  have y0 : xs[0]? = some (xs[0]'(by rw [hl]; simp)) := List.getElem?_eq_getElem _
  have y1 : xs[1]? = some (xs[1]'(by rw [hl]; simp)) := List.getElem?_eq_getElem _
  rw [y0] at e0
  rw [y1] at e1
  obtain ⟨S, hS⟩ := open_sects h0 hs hq hcs hcq e0
  obtain ⟨C, hC⟩ := open_writes h1 he hce k0 p0 q0 k1 p1 q1 hq hcq e1
  exact ⟨x, y, S, C, rfl, hS, hC⟩
theorem open_flags {H : Type} {enc : TypeId × Value → H} {P : Program} {w : World} {base : Nat} {held : Bool} {r : Reach} {b0 : Nat} {t e : TypeId} {v : Value} {d : DataW H} {ps : List MemPlace}
    (ht : P.underlying t = some (.slice e)) (he : P.underlying e = some .bool) (hc : P.cellsOf e = 1) (hval : Value.okWide P w r b0 t v) (hd : DataW.Trod enc P w base (fun _ => true) held t v d ps) : ∃ l, IsFlags w v l := by
  obtain ⟨a, n, c, rfl⟩ := okWide_slice ht hval
  obtain ⟨fuel, hf⟩ := hd
  rcases Go.Deep.open_bools ht he hc hf with ⟨hcs, _⟩ | ⟨ad, len, cap, B, hcs, _, hl, hm, _, hcell⟩
  · have h : Value.slice a n c = .slice none 0 0 := by simpa [Value.cells] using hcs
    rw [h]
    exact ⟨[], flags_nil w⟩
  · have h : Value.slice a n c = .slice (some ad) len cap := by simpa [Value.cells] using hcs
    rw [h]
    refine ⟨(List.range len).map B, .inr ⟨ad, cap, by simp, by simpa using hl, hm, fun j u hu => ?_⟩⟩
    rw [List.map_map] at hu
    obtain ⟨hj, rfl⟩ := range_some _ hu
    exact hcell j (by omega)
theorem open_numbers {H : Type} {enc : TypeId × Value → H} {P : Program} {w : World} {base : Nat} {held : Bool} {r : Reach} {b0 : Nat} {t e : TypeId} {v : Value} {d : DataW H} {ps : List MemPlace}
    (ht : P.underlying t = some (.slice e)) (he : P.underlying e = some (.int .i64)) (hc : P.cellsOf e = 1) (hval : Value.okWide P w r b0 t v) (hd : DataW.Trod enc P w base (fun _ => true) held t v d ps) : ∃ l, IsInts w v l := by
  obtain ⟨a, n, c, rfl⟩ := okWide_slice ht hval
  obtain ⟨fuel, hf⟩ := hd
  rcases open_ints ht he hc hf with ⟨hcs, _⟩ | ⟨ad, len, cap, zs, hcs, _, hl, hm, hz, _, hcell, hwz⟩
  · have h : Value.slice a n c = .slice none 0 0 := by simpa [Value.cells] using hcs
    rw [h]
    exact ⟨[], .inl ⟨rfl, rfl, rfl⟩, fun z hz => by simp at hz⟩
  · have h : Value.slice a n c = .slice (some ad) len cap := by simpa [Value.cells] using hcs
    rw [h]
    have hz : zs.length = cap := by simpa using hz
    have hlt : (zs.take len).length = len := by simp; omega
    refine ⟨zs.take len, .inr ⟨ad, cap, by rw [hlt], by rw [hlt]; exact hl, hm, fun j u hu => ?_⟩, fun z hz' => ?_⟩
    · have hj : j < len := by
        have h9 := (List.getElem?_eq_some_iff.1 hu).1
        rw [List.length_map, hlt] at h9
        exact h9
      rw [hcell j (by omega), ← hu]
      simp [hj, show j < zs.length by omega]
    · exact bounds_i64 (hwz z (List.mem_of_mem_take hz'))
end Go.Proofs.Ytaamjpcpdlanhaa
