/- Slices of slices of bytes, for the walks of the laws. -/
import Derived.Test.YtddimcicajlbgaaDoorNumH
namespace Go.Proofs.YtddimcicajlbgaaDoor
open Go.RowKit Go.Lib

theorem elemBytes : Tryd.prog.underlying 24 = some (.slice (Tryd.prog.elem 24)) := by kernel_rfl
theorem sizeByte (W : World) : (sizeOf (Tryd.prog.elem 24)).run Tryd.prog W = .ok 1 W := by kernel_rfl
theorem slice_to (a : Option Addr) (n c h : Nat) (hh : h ≤ c) (W : World) :
    (Instr.slice 24 (.slice a n c) none (some (.int .i64 h)) none).run Tryd.prog W = .ok (.slice a h c) W := by
  rw [run_slice_h (P := Tryd.prog) W 24 a n c elemBytes .i64 h (by omega) (by omega), sizeByte]
  simp only [Result.andThen, sliced, Int.toNat_natCast, Nat.sub_zero, Nat.zero_mul]
  congr 2
  split
  · rfl
  · cases a with
    | none => rfl
    | some a => simp only [Option.map_some]; congr 1
theorem slice_from (a : Option Addr) (n c l : Nat) (hl : l ≤ n) (W : World) :
    (Instr.slice 24 (.slice a n c) (some (.int .i64 l)) none none).run Tryd.prog W = .ok (.slice (if c = l then a else a.map (·.add l)) (n - l) (c - l)) W := by
  rw [run_slice_l (P := Tryd.prog) W 24 a n c elemBytes .i64 l (by omega) (by omega), sizeByte]
  simp only [Result.andThen, sliced, Int.toNat_natCast, Nat.mul_one]
theorem isBytes_all {w : World} {g n : Nat} {l : List UInt8} {t : TypeId} {fr : Nat × Nat} (h : w.heap[g]? = some (.cells (byteCells l).toArray t fr)) (hn : l.length = n) (hm : n ≤ maxLen) :
    IsBytes w (.slice (some ⟨g, 0, none⟩) n n) l :=
  isBytes_at h (by rw [List.drop_zero, List.take_of_length_le (by omega)]) (by omega) (Nat.le_refl _) hm
theorem IsBytes.shape {w : World} {v : Value} {l : List UInt8} (h : IsBytes w v l) : ∃ a c, v = .slice a l.length c := by
  rcases h with ⟨a, c, rfl, rfl⟩ | ⟨b, off, cap, rfl, _⟩
  · exact ⟨a, c, rfl⟩
  · exact ⟨_, _, rfl⟩
/-- Bytes that came in: beside how they read, of which shape the slice is (for what is appended). -/
def IsArg (w : World) (v : Value) (l : List UInt8) : Prop :=
  IsBytes w v l ∧ ((v = .slice none 0 0 ∧ l = []) ∨ ∃ ad c, v = .slice (some ad) l.length c ∧ ∀ j u, (byteCells l)[j]? = some u → w.cell? (ad.add j) = some u)
theorem isArg_nil (w : World) : IsArg w (.slice none 0 0) [] := ⟨.inl ⟨none, 0, rfl, rfl⟩, .inl ⟨rfl, rfl⟩⟩
theorem isArg_of_ints {w : World} {x : Addr} {len cap : Nat} {zs : List Int} (hl : len ≤ cap) (hm : cap ≤ maxLen) (hz : zs.length = cap)
    (hc : ∀ i, i < zs.length → w.cell? (x.add i) = some (.int .u8 (zs.getD i 0))) (hw : ∀ n ∈ zs, (Lit.int .u8 n).wf = true) :
    IsArg w (.slice (some x) len cap) ((zs.take len).map fun z => UInt8.ofNat z.toNat) := by
  have hlen : ((zs.take len).map fun z => UInt8.ofNat z.toNat).length = len := by simp; omega
  refine ⟨isBytes_of_ints hl hm hz hc hw, .inr ⟨x, cap, by rw [hlen], fun j u hu => ?_⟩⟩
  have hj : j < len := by
    have := (List.getElem?_eq_some_iff.1 hu).1
    rw [byteCells_length, hlen] at this
    exact this
  rw [hc j (by omega), ← hu]
  have hz2 : j < zs.length := by omega
  have hb := bounds_u8 (hw zs[j] (List.getElem_mem hz2))
  simp only [byteCells, List.getD_eq_getElem?_getD, List.getElem?_map, List.getElem?_take, if_pos hj, List.getElem?_eq_getElem hz2, Option.map_some, Option.getD_some]
  congr 2
  rw [UInt8.toNat_ofNat']
  omega
end Go.Proofs.YtddimcicajlbgaaDoor
