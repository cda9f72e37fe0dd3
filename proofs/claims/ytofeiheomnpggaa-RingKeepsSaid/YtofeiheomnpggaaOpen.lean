/- Arguments opened: an array of integers; a slice of bytes; a slice of slices of bytes. -/
import Derived.Test.YtofeiheomnpggaaArg
import Derived.OpenShut
import Derived.Deep.Matrix
namespace Go.Proofs.Ytofeiheomnpggaa
open Go.RowKit Go.Lib Go.ChangeShapes Go.WideShapes

def intOfCell : Value → Int
  | .int _ z => z
  | _ => 0
theorem open_int_array {H : Type} {enc : TypeId × Value → H} {P : Program} {w : World} {base : Nat} {spare : Nat → Bool} {held : Bool} {r : Reach} {b0 : Nat} {t e : TypeId} {n : Nat} {k : IntKind} {v : Value} {d : DataW H} {ps : List MemPlace}
    (ht : P.underlying t = some (.array n e)) (he : P.underlying e = some (.int k)) (hce : P.cellsOf e = 1) (hct : P.cellsOf t = n)
    (hval : Value.okWide P w r b0 t v) (hd : DataW.Trod enc P w base spare held t v d ps) :
    ∃ zs : List Int, v = .agg (zs.map fun z => Value.int k z).toArray ∧ zs.length = n ∧ ∀ z ∈ zs, (Lit.int k z).wf = true := by
  obtain ⟨cs, rfl, hsz⟩ : ∃ cs, v = .agg cs ∧ cs.size = P.cellsOf t := by
    unfold Value.okWide at hval
    rw [ht] at hval
    obtain ⟨cs, h1, h2, _⟩ := hval
    exact ⟨cs, h1, h2⟩
  obtain ⟨fuel, hf⟩ := hd
  obtain ⟨xs, m, _, _, hl, hxl, hx⟩ := DataW.trod_array ht hf
  have hcs : (Value.agg cs).cells.toList = cs.toList := rfl
  rw [hcs] at hl hx
  rw [hct] at hsz
  have each : ∀ i (h : i < cs.toList.length), ∃ z, cs.toList[i] = .int k z ∧ (Lit.int k z).wf = true := by
    intro i hi
    have hin : i < n := by have : cs.toList.length = cs.size := rfl
                           omega
    have h1 := hx i hin
    rw [List.getElem?_eq_getElem (by omega)] at h1
    obtain ⟨z, hc, _, hw⟩ := DataW.trod_int he h1
    rw [hce, Nat.mul_one] at hc
    have h2 : (List.take 1 (List.drop i cs.toList))[0]? = some (.int k z) := by rw [hc]; rfl
    rw [List.getElem?_take, if_pos (by decide), List.getElem?_drop, Nat.add_zero, List.getElem?_eq_getElem hi] at h2
    exact ⟨z, Option.some.inj h2, hw⟩
  refine ⟨cs.toList.map intOfCell, ?_, ?_, ?_⟩
  · congr 1
    rw [List.map_map]
    have h3 : cs.toList.map ((fun z => Value.int k z) ∘ intOfCell) = cs.toList := by
      refine List.ext_getElem (by simp) fun i h1 h2 => ?_
      obtain ⟨z, hz, _⟩ := each i h2
      rw [List.getElem_map, Function.comp_apply, hz]
      rfl
    rw [h3]
  · simp only [List.length_map]
    exact hsz
  · intro z hz
    obtain ⟨x, hxm, rfl⟩ := List.mem_map.1 hz
    obtain ⟨i, hi, rfl⟩ := List.mem_iff_getElem.1 hxm
    obtain ⟨z, hz, hw⟩ := each i hi
    rw [hz]
    exact hw
/-- An array of bytes that came in. -/
theorem open_byte_array {H : Type} {enc : TypeId × Value → H} {P : Program} {w : World} {base : Nat} {spare : Nat → Bool} {held : Bool} {r : Reach} {b0 : Nat} {t e : TypeId} {n : Nat} {v : Value} {d : DataW H} {ps : List MemPlace}
    (ht : P.underlying t = some (.array n e)) (he : P.underlying e = some (.int .u8)) (hce : P.cellsOf e = 1) (hct : P.cellsOf t = n)
    (hval : Value.okWide P w r b0 t v) (hd : DataW.Trod enc P w base spare held t v d ps) :
    ∃ l : List UInt8, v = .agg (byteCells l).toArray ∧ l.length = n := by
  obtain ⟨zs, rfl, hl, hw⟩ := open_int_array ht he hce hct hval hd
  refine ⟨zs.map fun z => UInt8.ofNat z.toNat, ?_, by simpa using hl⟩
  unfold byteCells
  rw [List.map_map]
  congr 2
  refine List.map_congr_left fun z hz => ?_
  have hb := bounds_u8 (hw z hz)
  show Value.int .u8 z = Value.int .u8 ((UInt8.ofNat z.toNat).toNat : Nat)
  rw [UInt8.toNat_ofNat', Nat.mod_eq_of_lt (by have : (2 : Nat) ^ 8 = 256 := rfl
                                               omega)]
  congr 1
  omega
/-- An array of words that came in. -/
theorem open_word_array {H : Type} {enc : TypeId × Value → H} {P : Program} {w : World} {base : Nat} {spare : Nat → Bool} {held : Bool} {r : Reach} {b0 : Nat} {t e : TypeId} {n : Nat} {v : Value} {d : DataW H} {ps : List MemPlace}
    (ht : P.underlying t = some (.array n e)) (he : P.underlying e = some (.int .u32)) (hce : P.cellsOf e = 1) (hct : P.cellsOf t = n)
    (hval : Value.okWide P w r b0 t v) (hd : DataW.Trod enc P w base spare held t v d ps) :
    ∃ l : List Nat, v = .agg (l.map fun x => Value.int .u32 (x : Nat)).toArray ∧ l.length = n ∧ ∀ x ∈ l, x < 4294967296 := by
  obtain ⟨zs, rfl, hl, hw⟩ := open_int_array ht he hce hct hval hd
  refine ⟨zs.map Int.toNat, ?_, by simpa using hl, ?_⟩
  · rw [List.map_map]
    congr 2
    refine List.map_congr_left fun z hz => ?_
    have hb := bounds_u32 (hw z hz)
    show Value.int .u32 z = Value.int .u32 ((z.toNat : Nat) : Int)
    congr 1
    omega
  · intro x hx
    obtain ⟨z, hz, rfl⟩ := List.mem_map.1 hx
    have hb := bounds_u32 (hw z hz)
    omega
/-- A slice of slices of bytes: what its rows read as. -/
def IsRows (w : World) (v : Value) (n : Nat) (V : Nat → Value) (Z : Nat → List UInt8) : Prop :=
  ∃ a c, v = .slice a n c ∧ n ≤ c ∧ c ≤ maxLen ∧ (0 < n → ∃ ad, a = some ad ∧ ∀ i, i < n → w.cell? (ad.add i) = some (V i)) ∧ ∀ i, i < n → IsArg w (V i) (Z i)
theorem IsRows.below {w w' : World} {v : Value} {n : Nat} {V : Nat → Value} {Z : Nat → List UInt8} (h : IsRows w v n V Z) (hb : Below w.heap.size w w') : IsRows w' v n V Z := by
  obtain ⟨a, c, h1, h2, h3, h4, h5⟩ := h
  refine ⟨a, c, h1, h2, h3, fun h0 => ?_, fun i hi => (h5 i hi).below hb⟩
  obtain ⟨ad, e1, e3⟩ := h4 h0
  exact ⟨ad, e1, fun i hi => (hb.cell (World.block_lt_of_cell? w _ (e3 i hi))).trans (e3 i hi)⟩
theorem open_byte_rows {H : Type} {enc : TypeId × Value → H} {P : Program} {w : World} {base : Nat} {held : Bool} {t e q : TypeId} {fuel : Nat} {a : Option Addr} {len cap : Nat} {x : DataW H × List MemPlace}
    (ht : P.underlying t = some (.slice e)) (he : P.underlying e = some (.slice q)) (hq : P.underlying q = some (.int .u8)) (ce : P.cellsOf e = 1) (cq : P.cellsOf q = 1)
    (h : DataW.trod enc P w base (fun _ => true) held fuel t (Value.slice a len cap).cells.toList = some x) : ∃ V Z, IsRows w (.slice a len cap) len V Z := by
  rcases Go.Deep.open_int_rows ht he hq ce cq h with ⟨hcs, _⟩ | ⟨ad, l, c, A, L, C, Z, hcs, _, hl, hm, _, hr⟩
  · simp [Value.cells] at hcs
    obtain ⟨rfl, rfl, rfl⟩ := hcs
    exact ⟨fun _ => .slice none 0 0, fun _ => [], none, 0, rfl, Nat.le_refl _, Nat.zero_le _, fun h0 => absurd h0 (by decide), fun i hi => absurd hi (by omega)⟩
  · simp [Value.cells] at hcs
    obtain ⟨rfl, rfl, rfl⟩ := hcs
    have each : ∀ r, r < len → ∃ z, IsArg w (.slice (A r) (L r) (C r)) z := by
      intro r hlt
      obtain ⟨_, h1, h2, h3, h4, h5, h6⟩ := hr r (by omega)
      rcases hA : A r with _ | a'
      · have h7 := h5 hA
        rw [h7] at h1 ⊢
        rw [show L r = 0 by omega]
        exact ⟨[], isArg_nil w⟩
      · exact ⟨_, isArg_of_ints h1 h2 h3 (fun i hi => (h6 a' hA).2 i (by omega)) h4⟩
    refine ⟨fun r => .slice (A r) (L r) (C r), fun r => if hlt : r < len then (each r hlt).choose else [], some ad, cap, rfl, hl, hm, fun h0 => ⟨ad, rfl, fun i hi => (hr i (by omega)).1⟩, fun i hi => ?_⟩
    simp only [dif_pos hi]
    exact (each i hi).choose_spec
end Go.Proofs.Ytofeiheomnpggaa
