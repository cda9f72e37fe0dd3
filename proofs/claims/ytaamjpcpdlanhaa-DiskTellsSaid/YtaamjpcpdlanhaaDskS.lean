/- What disk.same answers: a disk of the call's own; what was there stays. -/
import Derived.Test.YtaamjpcpdlanhaaDskQ
import Derived.Test.YtaamjpcpdlanhaaClone
import Derived.Laws.OwnMore
namespace Go.Proofs.Ytaamjpcpdlanhaa
open Go.RowKit Go.Lib

theorem infoS : (Try.prog.info? 35).map (fun i => (i.zero, i.size, i.bytes)) = some (some (.slice none 0 0), 1, 24) := by kernel_rfl
theorem infoW : (Try.prog.info? 55).map (fun i => (i.zero, i.size, i.bytes)) = some (some (.agg #[.int .i64 0, .slice none 0 0]), 2, 32) := by kernel_rfl

/-- The first k sectors of one's own: each a row, in blocks one behind the other. -/
def OwnPart (B : Nat) (W : World) (S : List (List UInt8)) (k : Nat) (xs : List Value) : Prop :=
  (∀ (i : Nat) (V : Value), i < k → xs[i]? = some V → W.ownsRow B 5 1 V (S.getD i []).length (byteCells (S.getD i []))) ∧
  (∀ (i j : Nat) (V V' : Value) (q q' : Nat), i < j → j < k → xs[i]? = some V → xs[j]? = some V' → V.ownBlock = some q → V'.ownBlock = some q' → q < q')
/-- Sectors of one's own. -/
def OwnSects (B M : Nat) (W : World) (v : Value) (S : List (List UInt8)) : Prop :=
  ∃ xs, W.ownsRow B 35 1 v S.length xs ∧ OwnPart B W S S.length xs ∧ (∀ (i : Nat) (V : Value) (q : Nat), i < S.length → xs[i]? = some V → V.ownBlock = some q → q < M) ∧ ∀ q, v.ownBlock = some q → q < M
/-- Writes of one's own. -/
def OwnWrites (B : Nat) (W : World) (v : Value) (C : List (Int × List UInt8)) : Prop :=
  ∃ X : List (Int × Value), X.length = C.length ∧ W.ownsRow B 55 2 v C.length (wcells X) ∧ ∀ (i : Nat) (x : Int × Value), X[i]? = some x → x.1 = (C.getD i (0, [])).1 ∧ W.ownsRow B 5 1 x.2 (C.getD i (0, [])).2.length (byteCells (C.getD i (0, [])).2)
theorem OwnPart.below {B : Nat} {W W' : World} {S : List (List UInt8)} {k : Nat} {xs : List Value} (h : OwnPart B W S k xs) (hb : Below W.heap.size W W') : OwnPart B W' S k xs :=
  ⟨fun i V hi hV => ownsRow_below (h.1 i V hi hV) hb, h.2⟩
theorem owns_low {w w' : World} {B M : Nat} {e : TypeId} {s : Nat} {v : Value} {n : Nat} {xs : List Value} (h : w.ownsRow B e s v n xs) (hv : ∀ q, v.ownBlock = some q → q < M) (hb : Below M w w') : w'.ownsRow B e s v n xs :=
  owns_keep h fun k _ hk hc => (hb.block k (hv k hk)).trans hc
theorem OwnSects.low {B M : Nat} {W W' : World} {v : Value} {S : List (List UInt8)} (h : OwnSects B M W v S) (hb : Below M W W') : OwnSects B M W' v S := by
  obtain ⟨xs, h1, h2, h3, h4⟩ := h
  exact ⟨xs, owns_low h1 h4 hb, ⟨fun i V hi hV => owns_low (h2.1 i V hi hV) (fun q hq => h3 i V q hi hV hq) hb, h2.2⟩, h3, h4⟩
theorem OwnSects.set {B M : Nat} {W : World} {v : Value} {S : List (List UInt8)} (h : OwnSects B M W v S) (a : Addr) (x : Value) (ha : a.block < B) : OwnSects B M (W.setCell a x) v S := by
  obtain ⟨xs, h1, h2, h3, h4⟩ := h
  exact ⟨xs, ownsRow_setCell_below h1 ha x, ⟨fun i V hi hV => ownsRow_setCell_below (h2.1 i V hi hV) ha x, h2.2⟩, h3, h4⟩
theorem OwnSects.base {B B' M : Nat} {W : World} {v : Value} {S : List (List UInt8)} (h : OwnSects B M W v S) (hb : B' ≤ B) : OwnSects B' M W v S := by
  obtain ⟨xs, h1, h2, h3, h4⟩ := h
  exact ⟨xs, ownsRow_base h1 hb, ⟨fun i V hi hV => ownsRow_base (h2.1 i V hi hV) hb, h2.2⟩, h3, h4⟩
theorem OwnWrites.set {B : Nat} {W : World} {v : Value} {C : List (Int × List UInt8)} (h : OwnWrites B W v C) (a : Addr) (x : Value) (ha : a.block < B) : OwnWrites B (W.setCell a x) v C := by
  obtain ⟨X, h1, h2, h3⟩ := h
  exact ⟨X, h1, ownsRow_setCell_below h2 ha x, fun i y hy => ⟨(h3 i y hy).1, ownsRow_setCell_below (h3 i y hy).2 ha x⟩⟩
theorem OwnSects.below {B M : Nat} {W W' : World} {v : Value} {S : List (List UInt8)} (h : OwnSects B M W v S) (hb : Below W.heap.size W W') : OwnSects B M W' v S := by
  obtain ⟨xs, h1, h2, h3, h4⟩ := h
  exact ⟨xs, ownsRow_below h1 hb, h2.below hb, h3, h4⟩
theorem OwnWrites.below {B : Nat} {W W' : World} {v : Value} {C : List (Int × List UInt8)} (h : OwnWrites B W v C) (hb : Below W.heap.size W W') : OwnWrites B W' v C := by
  obtain ⟨X, h1, h2, h3⟩ := h
  exact ⟨X, h1, ownsRow_below h2 hb, fun i x hx => ⟨(h3 i x hx).1, ownsRow_below (h3 i x hx).2 hb⟩⟩
theorem OwnSects.sects {B M : Nat} {W : World} {v : Value} {S : List (List UInt8)} (h : OwnSects B M W v S) : Sects W v S := by
  obtain ⟨xs, h1, h2, h3⟩ := h
  refine ⟨xs, by have := h1.1; omega, held_of_owns h1, fun i V l hV hl => ?_⟩
  have hi : i < S.length := (List.getElem?_eq_some_iff.1 hl).1
  have h4 := h2.1 i V hi hV
  have h5 : S.getD i [] = l := by rw [List.getD_eq_getElem?_getD, hl]; rfl
  rw [h5] at h4
  exact isArg_of_owns h4
theorem OwnWrites.writes {B : Nat} {W : World} {v : Value} {C : List (Int × List UInt8)} (h : OwnWrites B W v C) : Writes W v C := by
  obtain ⟨X, h1, h2, h3⟩ := h
  refine ⟨X, h1, held_of_owns h2, fun i x y hx hy => ?_⟩
  obtain ⟨h4, h5⟩ := h3 i x hx
  have h6 : C.getD i (0, []) = y := by rw [List.getD_eq_getElem?_getD, hy]; rfl
  rw [h6] at h4 h5
  exact ⟨h4, isArg_of_owns h5⟩
/-- A row of bytes stays where a cell of a block of another type is written. -/
theorem bytes_stay {w : World} {B g : Nat} {v : Value} {n : Nat} {xs : List Value} {t : TypeId} (h : w.ownsRow B 5 1 v n xs) (hg : ∃ cur fr, w.heap[g]? = some (.cells cur t fr)) (ht : t ≠ 5) (j : Nat) (u : Value) : (w.setCell ⟨g, j, none⟩ u).ownsRow B 5 1 v n xs :=
  owns_keep h fun k cur hk hc => by
    obtain ⟨c2, fr, hg⟩ := hg
    rw [Below.heap_setCell _ _ _ _ (fun e => by
      subst e
      rw [hg] at hc
      injection hc with hc
      injection hc with _ hc _
      exact ht hc)]
    exact hc
theorem row_block {w : World} {B g n cap s : Nat} {t : TypeId} {xs : List Value} (h : w.ownsRow B t s (.slice (some ⟨g, 0, none⟩) n cap) n xs) : ∃ cur fr, w.heap[g]? = some (.cells cur t fr) := by
  rcases h.2 with ⟨h1, _⟩ | ⟨g', cap', cur, h1, _, hh, _⟩
  · cases h1
  · cases h1
    exact ⟨cur, _, hh⟩
theorem OwnPart.put {B : Nat} {wr w2 : World} {S : List (List UInt8)} {k g n cap : Nat} {xs : List Value} (h : OwnPart B wr S k xs) (hb : Below wr.heap.size wr w2) (hx : w2.ownsRow B 35 1 (.slice (some ⟨g, 0, none⟩) n cap) n xs) (hk : k < n) {r : Value}
    (hr : w2.ownsRow wr.heap.size 5 1 r (S.getD k []).length (byteCells (S.getD k []))) (hB : B ≤ wr.heap.size) : OwnPart B (w2.setCell ⟨g, k, none⟩ r) S (k + 1) (xs.set k r) := by
  have hl : k < xs.length := by have := hx.1; omega
  have hne : (35 : Nat) ≠ 5 := by decide
  refine ⟨fun i V hi hV => ?_, fun i j V V' q q' hij hj hV hV' hq hq' => ?_⟩
  · by_cases he : i = k
    · rw [he] at hV ⊢
      rw [List.getElem?_set_self hl] at hV
      cases hV
      exact bytes_stay (ownsRow_base hr hB) (row_block hx) hne k r
    · rw [List.getElem?_set_ne (fun e => he e.symm)] at hV
      exact bytes_stay (ownsRow_below (h.1 i V (by omega) hV) hb) (row_block hx) hne k r
  · rw [List.getElem?_set_ne (by omega)] at hV
    by_cases he : j = k
    · rw [he, List.getElem?_set_self hl] at hV'
      cases hV'
      have h1 := (h.1 i V (by omega) hV).lt q hq
      have h2 := hr.lt q' hq'
      omega
    · rw [List.getElem?_set_ne (fun e => he e.symm)] at hV'
      exact h.2 i j V V' q q' hij (by omega) hV hV' hq hq'

theorem made_writes (m : Nat) : (madeCells #[.int .i64 0, .slice none 0 0] (m * 2)).toList = wcells (List.replicate m (0, .slice none 0 0)) := by
  apply List.ext_getElem?
  intro j
  by_cases hj : j < m * 2
  · have hk : (List.replicate m ((0 : Int), Value.slice none 0 0))[j / 2]? = some (0, .slice none 0 0) := by
      rw [List.getElem?_replicate, if_pos (by omega)]
    obtain ⟨e1, e2⟩ := wcells_at _ _ _ hk
    have h1 : (madeCells #[.int .i64 0, .slice none 0 0] (m * 2)).toList[j]? = some ((#[Value.int .i64 0, .slice none 0 0])[j % 2]!) := by
      simp [madeCells, hj]
    rw [h1]
    by_cases hp : j % 2 = 0
    · rw [show j / 2 * 2 = j by omega] at e1
      rw [e1, hp]
      rfl
    · rw [show j / 2 * 2 + 1 = j by omega] at e2
      rw [e2, show j % 2 = 1 by omega]
      rfl
  · rw [List.getElem?_eq_none (by simp [madeCells]; omega), List.getElem?_eq_none (by rw [wcells_length]; simp; omega)]
/-- The first j writes of one's own. -/
def OwnWs (M : Nat) (W : World) (C : List (Int × List UInt8)) (j : Nat) (X : List (Int × Value)) : Prop :=
  ∀ (i : Nat) (x : Int × Value), i < j → X[i]? = some x → x.1 = (C.getD i (0, [])).1 ∧ W.ownsRow M 5 1 x.2 (C.getD i (0, [])).2.length (byteCells (C.getD i (0, [])).2)
theorem OwnWs.put {M : Nat} {wr w2 : World} {C : List (Int × List UInt8)} {j g m cap : Nat} {X : List (Int × Value)} (h : OwnWs M wr C j X) (hb : Below wr.heap.size wr w2) (hx : w2.ownsRow M 55 2 (.slice (some ⟨g, 0, none⟩) m cap) m (wcells X)) (hj : j < m) (hX : X.length = m) {z : Int} {r : Value}
    (hz : z = (C.getD j (0, [])).1) (hr : w2.ownsRow wr.heap.size 5 1 r (C.getD j (0, [])).2.length (byteCells (C.getD j (0, [])).2)) (hB : M ≤ wr.heap.size) : OwnWs M ((w2.setCell ⟨g, j * 2, none⟩ (.int .i64 z)).setCell ⟨g, j * 2 + 1, none⟩ r) C (j + 1) (X.set j (z, r)) := by
  have hne : (55 : Nat) ≠ 5 := by decide
  have hx2 := (hx.stored (j * 2) (.int .i64 z)).1
  intro i x hi hV
  by_cases he : i = j
  · rw [he, List.getElem?_set_self (by omega)] at hV
    cases hV
    rw [he]
    exact ⟨hz, bytes_stay (bytes_stay (ownsRow_base hr hB) (row_block hx) hne _ _) (row_block hx2) hne _ _⟩
  · rw [List.getElem?_set_ne (fun e => he e.symm)] at hV
    obtain ⟨h1, h2⟩ := h i x (by omega) hV
    exact ⟨h1, bytes_stay (bytes_stay (ownsRow_below h2 hb) (row_block hx) hne _ _) (row_block hx2) hne _ _⟩

theorem res_free (w : World) (o : Obj) (cs : Array Value) (t : TypeId) (i : Nat) : ((w.alloc o).alloc (.cells cs t)).frozen? ⟨w.heap.size + 1, i, none⟩ = false := by
  have h : ((w.alloc o).alloc (.cells cs t)).heap[w.heap.size + 1]? = some (.cells cs t) := by simpa using heap_alloc_new (w.alloc o) (.cells cs t)
  unfold World.frozen?
  rw [h]
  simp

set_option maxHeartbeats 4000000 in
theorem same_any (s c : Value) (S : List (List UInt8)) (C : List (Int × List UInt8)) (w : World) (hd : IsDisk w s c S C) (hf : FewD S C) :
    Calls Try.prog 27 #[.agg #[s, c]] w fun e w' => ∃ sv cv M, e = .returned (.agg #[sv, cv]) ∧ w.heap.size ≤ M ∧ OwnSects w.heap.size M w' sv S ∧ OwnWrites M w' cv C ∧ Below w.heap.size w w' := by
  have HD := Lib.hid hd
  obtain ⟨a, ca, a1, c1, rfl, rfl, _, _⟩ := hd.shape
  obtain ⟨f1, f2, f3, f4⟩ := hf
  have HF3 := Lib.hid f3
  have HF4 := Lib.hid f4
  obtain ⟨i0, hi, hz0, hz1, hz2⟩ := info_parts infoS
  obtain ⟨j0, ji, jz0, jz1, jz2⟩ := info_parts infoW
  obtain ⟨n, hSn⟩ : ∃ n, n = S.length := ⟨_, rfl⟩
  obtain ⟨m, hCm⟩ : ∃ m, m = C.length := ⟨_, rfl⟩
  have HB0 := Lib.hid (((Below.refl w.heap.size w).alloc (Nat.le_refl _) (.cells #[.slice a n ca, .slice a1 m c1] 25)).alloc (by simp) (.cells #[.slice none 0 0, .slice none 0 0] 25))
  rw [← hSn] at f1
  rw [← hCm] at f2
  rw [← hSn, ← hCm] at HD
  rw [← hSn, ← hCm]
  have HSn := Lib.hid hSn
  have HCm := Lib.hid hCm
  clear hd f3 f4 hSn hCm
  go_enter Try.func27, Try.ntmps27
  go_wp2_with (refine wpList_make_full _ rfl _ _ 22 rfl (w.heap.size + 2) 35 i0 (.slice none 0 0) 1 Try.underlying22 hi hz0 hz1 .i64 .i64 _ _ n rfl rfl rfl rfl ?b2 ?b3 ?b4 ?_)
  case b2 => rw [hz2]; omega
  case b3 => unfold maxLen; omega
  case b4 => simp
  intro w1 hown hgrow
  obtain ⟨g, hg⟩ : ∃ g, g = w.heap.size + 1 + 1 := ⟨_, rfl⟩
  rw [← hg] at hown ⊢
  have HB1 := Lib.hid (HB0.out.grown hgrow (by simp; omega) (fun k hk => by cases hk))
  have hX := kept2 (box2_new w (.slice a n ca) (.slice a1 m c1) 25 (0, 0)) ((Below.refl _ _).alloc (Nat.le_refl _) (.cells #[.slice none 0 0, .slice none 0 0] 25))
  have hBg : Below ((w.alloc (.cells #[.slice a n ca, .slice a1 m c1] 25)).alloc (.cells #[.slice none 0 0, .slice none 0 0] 25)).heap.size ((w.alloc (.cells #[.slice a n ca, .slice a1 m c1] 25)).alloc (.cells #[.slice none 0 0, .slice none 0 0] 25)) w1 := (Below.refl _ _).grown hgrow (Nat.le_refl _) (fun k hk => by cases hk)
  have HX := Lib.hid (kept2 hX hBg)
  have hR : w1.cell? ⟨w.heap.size + 1, 0, none⟩ = some (.slice none 0 0) ∧ w1.cell? ⟨w.heap.size + 1, 1, none⟩ = some (.slice none 0 0) := by
    have h := kept2 (box2_new (w.alloc (.cells #[.slice a n ca, .slice a1 m c1] 25)) (.slice none 0 0) (.slice none 0 0) 25 (0, 0)) hBg
    simpa using h
  have HR := Lib.hid hR
  have hg2 : w.heap.size + 2 ≤ g := by omega
  have hgl : g < w1.heap.size := (hown.lt g rfl).2
  rw [toList_madeCells_one] at hown
  have HO := Lib.hid hown
  have HBX := Lib.hid hBg
  clear hX hBg hR hown hgrow hg
  obtain ⟨hx1, hx2⟩ := HX.out
  go_wp2
  clear hx1 hx2
  go_loopw [16] (fun i wr => ∃ k : Nat, k ≤ n ∧ i = .int .i64 k ∧ (∃ xs, wr.ownsRow (w.heap.size + 2) 35 1 (.slice (some ⟨g, 0, none⟩) n n) n xs ∧ OwnPart (w.heap.size + 2) wr S k xs) ∧ w1.heap.size ≤ wr.heap.size ∧ Below g w1 wr) (fun i _ => n - (intOf i).toNat)
  case atStart => exact ⟨0, Nat.zero_le _, rfl, ⟨_, ownsRow_base HO.out hg2, fun i V hi => by omega, fun i j V V' q q' hij hj => by omega⟩, Nat.le_refl _, Below.refl _ _⟩
  case round =>
    obtain ⟨k, hk, rfl, ⟨xs, hxs, hpart⟩, hsz, hbw⟩ := hrel
    have HXS := Lib.hid hxs
    have HP := Lib.hid hpart
    have HBW := Lib.hid hbw
    have HBw := Lib.hid (HB1.out.trans (hbw.mono (by omega)))
    clear hxs hpart hbw
    by_cases hlt : k < n
    · obtain ⟨b, off, va, vn, vc, rfl, hcl, hvn, hva⟩ := sect_shape (HD.out.below HBw.out).1 k (by rw [← HSn.out]; exact hlt)
      have HVA := Lib.hid hva
      clear hvn hva
      have HL := Lib.hid (show (S.getD k []).length ≤ 140737488355328 from Nat.le_trans (HF3.out _ (getD_mem S k [] (by rw [← HSn.out]; exact hlt))) (by decide))
      go_wp2_with fail
      refine (clone_any _ _ _ HVA.out HL.out).mono ?_
      rintro e w2 ⟨r, rfl, hr, hb⟩
      obtain ⟨ra, rn, rc, rfl, hrn⟩ := (isArg_of_owns hr).shape3
      clear hrn
      have HR2 := Lib.hid hr
      have HBr := Lib.hid hb
      have HX2 := Lib.hid (ownsRow_below HXS.out hb)
      obtain ⟨u, hu⟩ : ∃ u, xs[k]? = some u := ⟨xs[k]'(by have := HXS.out.1; omega), List.getElem?_eq_getElem _⟩
      have hcg : w2.cell? ⟨g, k, none⟩ = some u := by rw [HX2.out.cellAt k (by omega)]; exact hu
      have hfg : w2.frozen? ⟨g, k, none⟩ = false := HX2.out.frozenAt k
      have HS2 := Lib.hid hb.size
      clear hr hb hcl hu
      go_wp2
      go_roundw
      case rel =>
        refine ⟨k + 1, by omega, by go_num, ⟨_, (HX2.out.stored k _).1, HP.out.put HBr.out HX2.out hlt HR2.out (by omega)⟩, ?_, ?_⟩
        · have := HS2.out
          simp only [World.setCell, Array.size_modify]
          omega
        · exact (HBW.out.trans (HBr.out.mono (by omega))).setCell (Nat.le_refl _) _
      case measure => simp [intOf]; omega
    · obtain rfl : k = n := by omega
      have HXr := Lib.hid (show wr.cell? ⟨w.heap.size, 0, none⟩ = some (.slice a k ca) ∧ wr.cell? ⟨w.heap.size, 1, none⟩ = some (.slice a1 m c1) from ⟨(HBW.out.cell (by show w.heap.size < g; omega)).trans HX.out.1, (HBW.out.cell (by show w.heap.size < g; omega)).trans HX.out.2⟩)
      have HRr := Lib.hid (show wr.cell? ⟨w.heap.size + 1, 0, none⟩ = some (.slice none 0 0) ∧ wr.cell? ⟨w.heap.size + 1, 1, none⟩ = some (.slice none 0 0) from ⟨(HBW.out.cell (by show w.heap.size + 1 < g; omega)).trans HR.out.1, (HBW.out.cell (by show w.heap.size + 1 < g; omega)).trans HR.out.2⟩)
      have HBW1 := Lib.hid HBW.out
      clear HX HR HBW
      obtain ⟨hx1, hx2⟩ := HXr.out
      go_wp2_with (refine wpList_make_full _ rfl _ _ 23 rfl wr.heap.size 55 j0 (.agg #[.int .i64 0, .slice none 0 0]) 2 Try.underlying23 ji jz0 jz1 .i64 .i64 _ _ m rfl rfl rfl rfl ?d2 ?d3 ?d4 ?_)
      case d2 => rw [jz2]; omega
      case d3 => unfold maxLen; omega
      case d4 => exact Nat.le_refl _
      intro w3 hown hgrow
      obtain ⟨q, hq⟩ : ∃ q, q = wr.heap.size := ⟨_, rfl⟩
      rw [← hq] at hown ⊢
      rw [made_writes] at hown
      obtain ⟨w2, hw2⟩ : ∃ x, x = wr := ⟨_, rfl⟩
      subst hw2
      have hB3 : Below w2.heap.size w2 w3 := (Below.refl _ _).grown hgrow (Nat.le_refl _) (fun k hk => by cases hk)
      have HB3 := Lib.hid hB3
      have HXw := Lib.hid (kept2 HXr.out hB3)
      have HRw := Lib.hid (kept2 HRr.out hB3)
      have hq3 : q < w3.heap.size := (hown.lt q rfl).2
      have hwq : w.heap.size + 2 ≤ q := by omega
      have HQ := Lib.hid hq
      have HO2 := Lib.hid hown
      have HS3 := Lib.hid (show ∃ xs, w2.ownsRow (w.heap.size + 2) 35 1 (.slice (some ⟨g, 0, none⟩) k k) k xs ∧ OwnPart (w.heap.size + 2) w2 S k xs from ⟨xs, HXS.out, HP.out⟩)
      clear HXS HP hown hgrow hB3 hx1 hx2 hq
      obtain ⟨hx1, hx2⟩ := HXw.out
      go_wp2
      clear hx1 hx2
      go_loopw [34] (fun i wr => ∃ j : Nat, j ≤ m ∧ i = .int .i64 j ∧ (∃ X, X.length = m ∧ wr.ownsRow q 55 2 (.slice (some ⟨q, 0, none⟩) m m) m (wcells X) ∧ OwnWs q wr C j X) ∧ w3.heap.size ≤ wr.heap.size ∧ Below q w3 wr) (fun i _ => m - (intOf i).toNat)
      case atStart => exact ⟨0, Nat.zero_le _, rfl, ⟨List.replicate m (0, .slice none 0 0), by simp, HO2.out, fun i x hi => by omega⟩, Nat.le_refl _, Below.refl _ _⟩
      case round =>
        obtain ⟨j, hj, rfl, ⟨X, hXl, hxs, hpart⟩, hsz3, hbw⟩ := hrel
        have HX2 := Lib.hid hxs
        have HP2 := Lib.hid hpart
        have HBW := Lib.hid hbw
        have HB2 := Lib.hid (HBw.out.trans ((HB3.out.mono HBw.out.size).trans (hbw.mono (by omega))))
        have HXL := Lib.hid hXl
        clear hxs hpart hbw hXl
        by_cases hlt : j < m
        · obtain ⟨b, off, z, va, vn, vc, rfl, hcl1, hcl2, hz, hvn, hva⟩ := write_shape (HD.out.below HB2.out).2 j (by rw [← HCm.out]; exact hlt)
          have HVA := Lib.hid hva
          have HZ := Lib.hid hz
          have HBb := Lib.hid ((Below.refl wr.heap.size wr).alloc (Nat.le_refl _) (.cells #[.int .i64 z, .slice va vn vc] 55))
          have HL := Lib.hid (show (C.getD j (0, [])).2.length ≤ 140737488355328 from Nat.le_trans (HF4.out _ (getD_mem C j (0, []) (by rw [← HCm.out]; exact hlt))) (by decide))
          obtain ⟨x, hx⟩ : ∃ x, X[j]? = some x := ⟨X[j]'(by rw [HXL.out]; exact hlt), List.getElem?_eq_getElem _⟩
          obtain ⟨hxa, hxb⟩ := wcells_at X j x hx
          have hg1 : wr.cell? ⟨q, j * 2, none⟩ = some (.int .i64 x.1) := by rw [HX2.out.cellAt (j * 2) (by omega)]; exact hxa
          have hg2 : wr.cell? ⟨q, j * 2 + 1, none⟩ = some x.2 := by rw [HX2.out.cellAt (j * 2 + 1) (by omega)]; exact hxb
          obtain ⟨y1, y2⟩ := x
          have hbx := box2_new wr (.int .i64 z) (.slice va vn vc) 55 (0, 0)
          have hg1b := kept hg1 HBb.out
          have hg2b := kept hg2 HBb.out
          have hnq : wr.heap.size ≠ q := by omega
          have k1 : (0 : Int) ≤ (j : Int) := by omega
          have k2 : (j : Int) < (m : Int) := by omega
          clear hvn hva hz hx hxa hxb hg1 hg2
          go_wp2_with fail
          go_region_held3 (fun w' => w'.cell? ⟨wr.heap.size, 0, none⟩ = some (.int .i64 z) ∧ w'.cell? ⟨wr.heap.size, 1, none⟩ = some (.slice va vn vc)) (first | (with_reducible exact kept2 (by assumption) hb) | (with_reducible exact far2 hnq (by assumption)) | go_keep) (first
            | (go_at_call 32; refine (clone_any _ _ _ (HVA.out.below (by first | exact HBb.out | exact HBb.out.drew)) HL.out).mono ?_; rintro e w4 ⟨r, rfl, hr, hb⟩; obtain ⟨ra, rn, rc, rfl, hrn⟩ := (isArg_of_owns hr).shape3; clear hrn; have HR4 := Lib.hid hr; clear hr; have hw1 := kept_drew hg1b hb; have hw2 := kept_drew hg2b hb; have hw3 := (ownsRow_below HX2.out (HBb.out.drew.trans (hb.mono HBb.out.drew.size))).frozenAt (j * 2); have hw4 := (ownsRow_below HX2.out (HBb.out.drew.trans (hb.mono HBb.out.drew.size))).frozenAt (j * 2 + 1)))
          have HB4 := Lib.hid (HBb.out.drew.trans (hb.mono HBb.out.drew.size))
          have HX4 := Lib.hid (ownsRow_below HX2.out HB4.out)
          have HR5 := Lib.hid (ownsRow_base HR4.out HBb.out.drew.size)
          have HS4 := Lib.hid HB4.out.size
          clear hw1 hw2 hw3 hw4 hb hbx hg1b hg2b HR4
          go_wp2
          go_roundw
          case rel =>
            refine ⟨j + 1, by omega, by go_num, ⟨X.set j (z, .slice ra rn rc), by rw [List.length_set]; exact HXL.out, ?_, HP2.out.put HB4.out HX4.out hlt HXL.out HZ.out HR5.out (by omega)⟩, ?_, ?_⟩
            · rw [← wcells_set]
              exact ((HX4.out.stored (j * 2) _).1.stored (j * 2 + 1) _).1
            · have := HS4.out
              simp only [World.setCell, Array.size_modify]
              omega
            · exact ((HBW.out.trans (HB4.out.mono (by omega))).setCell (Nat.le_refl _) _).setCell (Nat.le_refl _) _
          case measure => simp [intOf]; omega
        · obtain rfl : j = m := by omega
          have hR := (show wr.cell? ⟨w.heap.size + 1, 0, none⟩ = some (.slice none 0 0) ∧ wr.cell? ⟨w.heap.size + 1, 1, none⟩ = some (.slice none 0 0) from ⟨(HBW.out.cell (by show w.heap.size + 1 < q; omega)).trans HRw.out.1, (HBW.out.cell (by show w.heap.size + 1 < q; omega)).trans HRw.out.2⟩)
          have hfz : wr.frozen? ⟨w.heap.size + 1, 0, none⟩ = false ∧ wr.frozen? ⟨w.heap.size + 1, 1, none⟩ = false := by
            have hBq := (HBX.out.trans ((HBW1.out.mono (by simp; omega)).trans (((HB3.out.mono (Nat.le_of_eq HQ.out)).trans HBW.out).mono (by simp; omega))))
            exact ⟨(hBq.frozen (by simp)).trans (res_free _ _ _ _ _), (hBq.frozen (by simp)).trans (res_free _ _ _ _ _)⟩
          have HSE := Lib.hid (show OwnSects (w.heap.size + 2) q wr (.slice (some ⟨g, 0, none⟩) k k) S by
            have h0 : OwnSects (w.heap.size + 2) q w2 (.slice (some ⟨g, 0, none⟩) k k) S := by
              obtain ⟨xs, h1, h2⟩ := HS3.out
              rw [HSn.out] at h1 h2 ⊢
              refine ⟨xs, h1, h2, fun i V p hi hV hp => ?_, fun p hp => ?_⟩
              · have := ((h2.1 i V hi hV).lt p hp).2
                have := HQ.out
                omega
              · have := (h1.lt p hp).2
                have := HQ.out
                omega
            exact h0.low ((HB3.out.mono (Nat.le_of_eq HQ.out)).trans HBW.out))
          have HWR := Lib.hid (show OwnWrites q wr (.slice (some ⟨q, 0, none⟩) j j) C by
            have h1 := HX2.out
            have h2 := HP2.out
            have h3 := HXL.out
            rw [HCm.out] at h1 h2 h3 ⊢
            exact ⟨X, h3, h1, fun i x hx => h2 i x (by rw [← h3]; exact (List.getElem?_eq_some_iff.1 hx).1) hx⟩)
          clear HX2 HP2 HBW HBW1
          obtain ⟨hr1, hr2⟩ := hR
          obtain ⟨hz1', hz2'⟩ := hfz
          have hlt1 : w.heap.size + 1 < wr.heap.size := by omega
          go_wp2
          refine bodyPost_ret (v := .agg #[.slice (some ⟨g, 0, none⟩) k k, .slice (some ⟨q, 0, none⟩) j j]) (by simp [results, Try.results27, go_sem, hr1, hr2]) rfl ⟨_, _, q, rfl, by omega, ?_, ?_, ?_⟩
          · exact ((HSE.out.set _ _ (by show w.heap.size + 1 < w.heap.size + 2; omega)).set _ _ (by show w.heap.size + 1 < w.heap.size + 2; omega)).base (by omega)
          · exact (HWR.out.set _ _ (by show w.heap.size + 1 < q; omega)).set _ _ (by show w.heap.size + 1 < q; omega)
          · exact (HB2.out.setCell (by show w.heap.size ≤ w.heap.size + 1; omega) _).setCell (by show w.heap.size ≤ w.heap.size + 1; omega) _
end Go.Proofs.Ytaamjpcpdlanhaa
