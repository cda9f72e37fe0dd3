/- What crc.Closed and crc.Holds answer, for bytes of at most a million; what was there stays. -/
import Derived.Test.YtfkojcaefhknnaaCrcC
import Derived.Test.YtfkojcaefhknnaaGrow
namespace Go.Proofs.Ytfkojcaefhknnaa
open Go.RowKit Go.Lib

set_option maxHeartbeats 400000 in
theorem equal_same (a b : Value) (l : List UInt8) (w : World) (ha : IsBytes w a l) (hb : IsBytes w b l) :
    Calls Try.prog 19 #[a, b] w fun e w' => e = .returned (.bool true) ∧ w = w' := by
  have h1 := conv_bytes ha
  have h2 := conv_bytes hb
  go_enter Try.func19, Try.ntmps19
  go_wp2
  go_ret
  exact ⟨rfl, rfl⟩
set_option maxHeartbeats 400000 in
theorem equal_other (a b : Value) (la lb : List UInt8) (w : World) (ha : IsBytes w a la) (hb : IsBytes w b lb) (hne : la ≠ lb) :
    Calls Try.prog 19 #[a, b] w fun e w' => e = .returned (.bool false) ∧ w = w' := by
  have h1 := conv_bytes ha
  have h2 := conv_bytes hb
  have h3 : (la == lb) = false := by rw [beq_eq_false_iff_ne]; exact hne
  clear hne
  go_enter Try.func19, Try.ntmps19
  go_wp2
  go_ret
  exact ⟨rfl, rfl⟩

theorem isArg_of_row {w : World} {g : Nat} {l : List UInt8} {n : Nat} {t : TypeId} {fr : Nat × Nat} (h : w.heap[g]? = some (.cells (byteCells l).toArray t fr)) (hn : l.length = n) (hm : n ≤ maxLen) :
    IsArg w (.slice (some ⟨g, 0, none⟩) n n) l := by
  refine ⟨isBytes_all h hn hm, .inr ⟨⟨g, 0, none⟩, n, by rw [hn], fun j u hu => ?_⟩⟩
  have hj : j < l.length := by have := (List.getElem?_eq_some_iff.1 hu).1; rwa [byteCells_length] at this
  rw [Addr.add_lit, Nat.zero_add, row_cell h hj, ← hu]
  simp only [byteCells, List.getElem?_map, List.getD_eq_getElem?_getD, List.getElem?_eq_getElem hj, Option.map_some, Option.getD_some]
theorem IsArg.below {w w' : World} {v : Value} {l : List UInt8} (h : IsArg w v l) (hb : Below w.heap.size w w') : IsArg w' v l :=
  ⟨h.1.below hb, by
    rcases h.2 with h | ⟨ad, c, h1, h2⟩
    · exact .inl h
    · exact .inr ⟨ad, c, h1, fun i u hu => by
        have h3 := h2 i u hu
        rw [hb.cell (World.block_lt_of_cell? w _ h3)]; exact h3⟩⟩

theorem two_cells (w : World) (u v : Value) (t : TypeId) : (w.alloc (.cells #[u, v] t)).cell? ⟨w.heap.size, 0, none⟩ = some u ∧ (w.alloc (.cells #[u, v] t)).cell? ⟨w.heap.size, 1, none⟩ = some v := by
  have h := heap_alloc_new w (.cells #[u, v] t)
  constructor <;> (unfold World.cell?; rw [h]; rfl)
/-- slices.Concat of two. -/
theorem concat_two {w : World} {u v : Value} {k m : List UInt8} (hu : IsArg w u k) (hv : IsArg w v m) (hlen : (k ++ m).length ≤ 140737488355328) :
    Calls Try.prog 17 #[.slice (some ⟨w.heap.size, 0, none⟩) 2 2] (w.alloc (.cells #[u, v] 22)) fun e w' => ∃ r, e = .returned r ∧ w'.ownsRow w.heap.size 5 1 r (k.length + m.length) (byteCells (k ++ m)) ∧ Below w.heap.size w w' := by
  have hb : Below w.heap.size w (w.alloc (.cells #[u, v] 22)) := (Below.refl _ _).alloc (Nat.le_refl _) _
  have hc := two_cells w u v 22
  have hj : joined [(u, k), (v, m)] 2 = k ++ m := by simp [joined]
  have h := concat_any w.heap.size 2 [(u, k), (v, m)] rfl (by decide) (w.alloc (.cells #[u, v] 22)) (fun j hj => by
    match j, hj with
    | 0, _ => exact ⟨hc.1, hu.below hb⟩
    | 1, _ => exact ⟨hc.2, hv.below hb⟩) (by rw [show [(u, k), (v, m)].length = 2 from rfl, hj]; exact hlen)
  rw [show [(u, k), (v, m)].length = 2 from rfl, hj, List.length_append] at h
  exact h.mono fun e w' ⟨r, he, ho, hb'⟩ => ⟨r, he, ownsRow_base ho hb.size, hb.trans (hb'.mono hb.size)⟩

set_option maxHeartbeats 1000000 in
theorem closed_any (v : Value) (l : List UInt8) (w : World) (hv : IsArg w v l) (hlen : l.length ≤ 1000000) :
    Calls Try.prog 8 #[v] w fun e w' => ∃ u, e = .returned u ∧ w'.ownsRow w.heap.size 5 1 u (l.length + 4) (byteCells (crcClosed l)) ∧ Below w.heap.size w w' := by
  obtain ⟨a, c, hsh⟩ := hv.1.shape
  have HV := Lib.hid hv
  clear hv
  rw [hsh] at HV
  subst hsh
  go_enter Try.func8, Try.ntmps8
  go_wp2_with fail
  refine (of_any _ l _ HV.out.1).mono ?_
  rintro e w1 ⟨rfl, hb1⟩
  have HB1 := Lib.hid hb1
  clear hb1
  go_wp2_with fail
  refine (tail_row (crcOf l) _).mono ?_
  rintro e w2 ⟨g, rfl, hr2, hg2, hb2⟩
  have ha2 := isArg_of_row hr2 (leB_length _ 4) (by unfold maxLen; omega)
  have hv2 := (HV.out.below HB1.out).below hb2
  have HB2 := Lib.hid (HB1.out.trans (hb2.mono HB1.out.size))
  clear hb2 HB1 hr2 hg2
  have hcc := concat_two hv2 ha2 (by simp; omega)
  rw [leB_length] at hcc
  have HCC := Lib.hid hcc
  clear hcc
  go_wp2_with fail
  refine HCC.out.mono ?_
  rintro e w3 ⟨u, rfl, hown, hb3⟩
  have hsz := HB2.out.size
  go_wp2
  go_ret
  exact ⟨_, rfl, ownsRow_base hown hsz, HB2.out.trans (hb3.mono hsz)⟩

/-- A piece that ends ahead of the end: in the shape that calls want. -/
theorem IsArg.front {w : World} {a : Option Addr} {l : List UInt8} {c : Nat} (h : IsArg w (.slice a l.length c) l) (n : Nat) (hn : n ≤ l.length) (h0 : 0 < l.length) : IsBytes w (.slice a n c) (l.take n) := by
  rcases h.1 with ⟨a0, c0, h1, h2⟩ | ⟨b, off, cap, h1, h2, h3, h4, h5⟩
  · subst h2; simp at h0
  · cases h1
    by_cases hz : n = 0
    · subst hz; exact .inl ⟨_, _, rfl, by simp⟩
    · have hl : (l.take n).length = n := by simp; omega
      refine .inr ⟨b, off, c, by rw [hl], by omega, h3, h4, fun i hi => ?_⟩
      rw [hl] at hi
      rw [h5 i (by omega)]
      simp [hi]
end Go.Proofs.Ytfkojcaefhknnaa
