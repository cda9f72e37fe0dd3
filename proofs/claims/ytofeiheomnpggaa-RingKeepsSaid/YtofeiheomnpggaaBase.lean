/- Slices of bytes in a walk: what was read as text, cut, appended, written. -/
import Derived.Test.YtofeiheomnpggaaRows
import Derived.Test.YtofeiheomnpggaaNumP
import Derived.WalkKit
import Derived.WalkSpells
import Derived.WalkLawsBesides
import Derived.Deep.RegionWith
import Derived.Deep.QuietTactic
import Derived.Deep.OwnRows
import Derived.BigQuiet
import Derived.Lib.Hide
import Derived.Deep.DeepCutAuto
import Derived.Laws.AppendOwnNone
import Derived.Lib.BufferWrite
namespace Go.Proofs.Ytofeiheomnpggaa
open Go.RowKit Go.Lib

theorem info8 : (Try.prog.info? 5).map (fun i => (i.zero, i.size, i.bytes)) = some (some (.int .u8 0), 1, 1) := by kernel_rfl

theorem below_drewN {B : Nat} {a w : World} (h : Below B a w) (n : Nat) : Below B a (w.drewN n) := h.trans ⟨rfl, rfl, rfl, Nat.le_refl _, fun _ _ => rfl⟩
theorem cell_new (w : World) (cs : Array Value) (t : TypeId) (j : Nat) (u : Value) (h : cs.toList[j]? = some u) : (w.alloc (.cells cs t)).cell? ((⟨w.heap.size, 0, none⟩ : Addr).add j) = some u := by
  have hw := heap_alloc_new w (.cells cs t)
  rw [Addr.add_lit, Nat.zero_add]
  unfold World.cell?
  rw [hw]
  simpa using h
theorem conv_bytes {v : Value} {l : List UInt8} {w : World} (hv : IsBytes w v l) : (convert 26 9 v).run Try.prog w = .ok (.string ⟨l.toArray⟩) w := by
  rcases hv with ⟨a0, c0, rfl, rfl⟩ | ⟨b, off, cap, rfl, hc1, hc2, hb, hcell⟩
  · cases a0 with
    | none => exact run_convert_bytes_nil w _ _ Try.underlying26 Try.underlying5 0 c0 _ Try.underlying9
    | some a => exact run_convert_bytes_back w _ _ _ a c0 [] Try.underlying26 Try.underlying5 Try.underlying9 (fun j hj => by simp at hj)
  · refine run_convert_bytes_back w _ _ _ ⟨b, off, none⟩ cap l Try.underlying26 Try.underlying5 Try.underlying9 (fun j hj => ?_)
    rw [Addr.add_lit, hcell j hj]
    simp [hj]

theorem elemBytes : Try.prog.underlying 26 = some (.slice (Try.prog.elem 26)) := by kernel_rfl
theorem sizeByte (W : World) : (sizeOf (Try.prog.elem 26)).run Try.prog W = .ok 1 W := by kernel_rfl
theorem slice_to (a : Option Addr) (n c h : Nat) (hh : h ≤ c) (W : World) :
    (Instr.slice 26 (.slice a n c) none (some (.int .i64 h)) none).run Try.prog W = .ok (.slice a h c) W := by
  rw [run_slice_h (P := Try.prog) W 26 a n c elemBytes .i64 h (by omega) (by omega), sizeByte]
  simp only [Result.andThen, sliced, Int.toNat_natCast, Nat.sub_zero, Nat.zero_mul]
  congr 2
  split
  · rfl
  · cases a with
    | none => rfl
    | some a => simp only [Option.map_some]; congr 1
theorem slice_from (a : Option Addr) (n c l : Nat) (hl : l ≤ n) (W : World) :
    (Instr.slice 26 (.slice a n c) (some (.int .i64 l)) none none).run Try.prog W = .ok (.slice (if c = l then a else a.map (·.add l)) (n - l) (c - l)) W := by
  rw [run_slice_l (P := Try.prog) W 26 a n c elemBytes .i64 l (by omega) (by omega), sizeByte]
  simp only [Result.andThen, sliced, Int.toNat_natCast, Nat.mul_one]
theorem isBytes_all {w : World} {g n : Nat} {l : List UInt8} {t : TypeId} {fr : Nat × Nat} (h : w.heap[g]? = some (.cells (byteCells l).toArray t fr)) (hn : l.length = n) (hm : n ≤ maxLen) :
    IsBytes w (.slice (some ⟨g, 0, none⟩) n n) l :=
  isBytes_at h (by rw [List.drop_zero, List.take_of_length_le (by omega)]) (by omega) (Nat.le_refl _) hm
theorem IsBytes.shape {w : World} {v : Value} {l : List UInt8} (h : IsBytes w v l) : ∃ a c, v = .slice a l.length c := by
  rcases h with ⟨a, c, rfl, rfl⟩ | ⟨b, off, cap, rfl, _⟩
  · exact ⟨a, c, rfl⟩
  · exact ⟨_, _, rfl⟩
/-- Bytes that came in: beside how they read, of which shape the slice is (for what is appended). -/
def IsArg (w : World) (v : Value) (l : List UInt8) : Prop :=
  IsBytes w v l ∧ ((v = .slice none 0 0 ∧ l = []) ∨ ∃ ad c, v = .slice (some ad) l.length c ∧ ∀ j u, (byteCells l)[j]? = some u → w.cell? (ad.add j) = some u)
theorem isArg_nil (w : World) : IsArg w (.slice none 0 0) [] := ⟨.inl ⟨none, 0, rfl, rfl⟩, .inl ⟨rfl, rfl⟩⟩
theorem isArg_of_ints {w : World} {x : Addr} {len cap : Nat} {zs : List Int} (hl : len ≤ cap) (hm : cap ≤ maxLen) (hz : zs.length = cap)
    (hc : ∀ i, i < zs.length → w.cell? (x.add i) = some (.int .u8 (zs.getD i 0))) (hw : ∀ n ∈ zs, (Lit.int .u8 n).wf = true) :
    IsArg w (.slice (some x) len cap) ((zs.take len).map fun z => UInt8.ofNat z.toNat) := by
  have hlen : ((zs.take len).map fun z => UInt8.ofNat z.toNat).length = len := by simp; omega
  refine ⟨isBytes_of_ints hl hm hz hc hw, .inr ⟨x, cap, by rw [hlen], fun j u hu => ?_⟩⟩
  have hj : j < len := by
    have := (List.getElem?_eq_some_iff.1 hu).1
    rw [byteCells_length, hlen] at this
    exact this
  rw [hc j (by omega), ← hu]
  have hz2 : j < zs.length := by omega
  have hb := bounds_u8 (hw zs[j] (List.getElem_mem hz2))
  simp only [byteCells, List.getD_eq_getElem?_getD, List.getElem?_map, List.getElem?_take, if_pos hj, List.getElem?_eq_getElem hz2, Option.map_some, Option.getD_some]
  congr 2
  rw [UInt8.toNat_ofNat']
  omega

/-- 'append(s, xs...)': s the call's own, xs bytes that came in (nil or not). -/
theorem wpList_append_isArg {P : Program} (w : World) {ops : Array Oper} {rest : List Oper} {o : Oper} {a : Act} {Q : Exit → Act → World → Prop} (hgd : o.guard = none) (s x : Operand) (t : TypeId)
    (ho : o.op = .call { callee := .builtin .append, args := #[s, x], argTypes := #[t, t] })
    (base : Nat) (e : TypeId) (i : TypeInfo) (z : Value) (ht : P.underlying t = some (.slice e)) (hi : P.info? e = some i) (hz : i.zero = some z)
    (hsize : i.size = 1) (hby : i.bytes = 1) (hzs : z.cells.size = 1)
    (v : Value) (n : Nat) (xs : List Value) (hs : a.eval s = v) (hown : w.ownsRow base e 1 v n xs)
    (V : Value) (l : List UInt8) (hx : a.eval x = V) (hV : (V = .slice none 0 0 ∧ l = []) ∨ ∃ ad c, V = .slice (some ad) l.length c ∧ ∀ j u, (byteCells l)[j]? = some u → w.cell? (ad.add j) = some u)
    (h63 : n + l.length ≤ 140737488355328) (hbase : base ≤ w.heap.size)
    (h : ∀ v' w', w'.ownsRow base e 1 v' (n + l.length) (xs ++ byteCells l) → w.grownBy w' v.ownBlock → wpList P ops Q rest (a.put o.dst v') w') : wpList P ops Q (o :: rest) a w := by
  rcases hV with ⟨rfl, rfl⟩ | ⟨ad, c, rfl, hnews⟩
  · refine wpList_append_own_none hgd s x t ho base e i 1 ht hi v n xs hs hown hx ?_
    exact h v w (by simpa [byteCells] using hown) (World.grownBy.refl w _)
  · exact wpList_append_own w hgd s x t ho base e i z 1 1 ht hi hz hsize hby hzs (by decide) v n xs hs hown ad l.length c (byteCells l) hx (by simp [byteCells]) hnews (byteCells_one l)
      (by unfold maxLen; omega) (by omega) hbase (fun v' w' h1 h2 _ => h v' w' h1 h2)

theorem ownsRow_below {w w' : World} {base : Nat} {t : TypeId} {size : Nat} {v : Value} {n : Nat} {xs : List Value} (h : w.ownsRow base t size v n xs) (hb : Below w.heap.size w w') : w'.ownsRow base t size v n xs := by
  refine ⟨h.1, ?_⟩
  rcases h.2 with h2 | ⟨g, cap, cur, hv, hg, hh, r⟩
  · exact .inl h2
  · exact .inr ⟨g, cap, cur, hv, hg, by rw [hb.block g (Array.getElem?_eq_some_iff.1 hh).1]; exact hh, r⟩

/-- One byte of the call's own row is written. -/
theorem isBytes_set {w : World} {g cap : Nat} {cur : Array Value} {t : List UInt8} {ty : TypeId} (h : w.heap[g]? = some (.cells cur ty (0, 0))) (htk : cur.toList.take t.length = byteCells t) (hc : t.length ≤ cap) (hcap : cap ≤ maxLen) (j : Nat) (y : UInt8) :
    IsBytes ((w.setCell ⟨g, j, none⟩ (.int .u8 y.toNat)).drew) (.slice (some ⟨g, 0, none⟩) t.length cap) (t.set j y) := by
  have hg := (Array.getElem?_eq_some_iff.1 h).1
  have hnew : (w.setCell ⟨g, j, none⟩ (.int .u8 y.toNat)).heap[g]? = some (.cells (cur.setIfInBounds j (.int .u8 y.toNat)) ty (0, 0)) := by
    simp [World.setCell, Array.getElem?_modify, h]
  have hsz : (w.setCell ⟨g, j, none⟩ (.int .u8 y.toNat)).heap.size = w.heap.size := by simp [World.setCell]
  refine .inr ⟨g, 0, cap, by rw [List.length_set], by rw [List.length_set]; exact hc, hcap, by show g < (w.setCell _ _).heap.size; omega, fun i hi => ?_⟩
  rw [List.length_set] at hi
  show (w.setCell ⟨g, j, none⟩ (.int .u8 y.toNat)).cell? ⟨g, 0 + i, none⟩ = _
  have hc2 : (w.setCell ⟨g, j, none⟩ (.int .u8 y.toNat)).cell? ⟨g, 0 + i, none⟩ = (cur.setIfInBounds j (.int .u8 y.toNat))[i]? := by
    unfold World.cell?
    rw [hnew, Nat.zero_add]
    rfl
  rw [hc2, Array.getElem?_setIfInBounds]
  have hcur : cur[i]? = some (.int .u8 (t.getD i 0).toNat) := by
    have h1 : (cur.toList.take t.length)[i]? = some (.int .u8 (t.getD i 0).toNat) := by rw [htk]; simp [byteCells, hi]
    rw [List.getElem?_take, if_pos hi] at h1
    simpa using h1
  by_cases hij : j = i
  · subst hij
    have hsz2 : j < cur.size := (Array.getElem?_eq_some_iff.1 hcur).1
    simp [hsz2, hi]
  · rw [if_neg hij, hcur]
    simp [List.getElem?_set_ne hij]

theorem isBytes_new (w : World) (cs : Array Value) (t : TypeId) (fr : Nat × Nat) (l : List UInt8) (n : Nat) (h : cs.toList = byteCells l) (hn : n = l.length) (hm : n ≤ maxLen) :
    IsBytes (w.alloc (.cells cs t fr)) (.slice (some ⟨w.heap.size, 0, none⟩) n n) l := by
  subst hn
  refine .inr ⟨w.heap.size, 0, l.length, rfl, Nat.le_refl _, hm, by simp, fun i hi => ?_⟩
  have hw : (w.alloc (.cells cs t fr)).heap[w.heap.size]? = some (.cells cs t fr) := heap_alloc_new w _
  have hcs : cs = (byteCells l).toArray := by rw [← h]
  have hc : (w.alloc (.cells cs t fr)).cell? ⟨w.heap.size, 0 + i, none⟩ = cs[i]? := by
    unfold World.cell?
    rw [hw, Nat.zero_add]
    rfl
  rw [hc, hcs]
  simp [byteCells, hi]

end Go.Proofs.Ytofeiheomnpggaa
