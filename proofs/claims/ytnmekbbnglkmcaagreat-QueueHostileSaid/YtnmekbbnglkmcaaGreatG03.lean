import Derived.Test.YtnmekbbnglkmcaaGreatG02
namespace Go.Proofs.YtnmekbbnglkmcaaGreat
open Go.RowKit Go.Lib
theorem Turn.other {w w' : World} {g B n s : Nat} {e t : TypeId} {v : Value} {xs : List Value} {cur : Array Value} {fr : Nat × Nat} (h : Turn w w' g) (hg : w.heap[g]? = some (.cells cur t fr)) (hne : (t : Nat) ≠ e) (ho : w.ownsRow B e s v n xs) : w'.ownsRow B e s v n xs :=
 owns_keep ho fun k c _ hc => h.row k _ hc (fun e' => by
  subst e'
  rw [hg] at hc
  injection hc with hc
  injection hc with _ hc _
  exact hne hc)
theorem Turn.wk {w w' : World} {B g gf : Nat} {q : QQ} {F C M : Value} {D : List Value} {l : List UInt8} {cur : Array Value} {t : TypeId} {fr : Nat × Nat} (ht : Turn w w' gf) (h : WorkB B w g q F C M D l) (hg : w.heap[gf]? = some (.cells cur t fr)) (hne : (t : Nat) ≠ 74) : w'.heap[g]? = some (.cells #[.int .i64 q.base, .int .i64 q.size, F, .int .u16 (q.avail : Nat), .int .u16 (q.last : Nat), C, M] 74 (0, 0)) :=
 ht.row g _ h.row (blocks_ne hg h.row (fun e => hne e.symm))
theorem tIC : (3 : Nat) ≠ 76 := by decide
theorem tIW : (3 : Nat) ≠ 74 := by decide
theorem tIU : (3 : Nat) ≠ 5 := by decide
theorem tChW : (76 : Nat) ≠ 74 := by decide
theorem tChU : (76 : Nat) ≠ 5 := by decide
theorem WorkB.turnF {w w' : World} {B g gf n fc : Nat} {q : QQ} {C M : Value} {D : List Value} {l : List UInt8} (h : WorkB B w g q (.slice (some ⟨gf, 0, none⟩) n fc) C M D l) (ht : Turn w w' gf) {cur : Array Value} (hg : w.heap[gf]? = some (.cells cur 3 (0, 0))) {m : Nat} {free : List Int} (ho : OwnI B w' (.slice (some ⟨gf, 0, none⟩) m fc) free) :
 IsQ B w' (.slice (some ⟨gf, 0, none⟩) m fc) C { q with free := free } D ∧ OwnB 0 w' M l :=
 ⟨⟨ho, ⟨h.isq.chains.len, ht.other hg tIC h.isq.chains.row, fun i d c hd hc => ht.owns (h.isq.chains.ds i d c hd hc) (fun e => h.isq.apart i d gf hd e rfl)⟩, fun i d p hd hp e => h.isq.apart i d p hd hp e⟩, ht.other hg tIU h.mem⟩
theorem WorkB.cutF {w w' : World} {B g gf n fc : Nat} {q : QQ} {C M : Value} {D : List Value} {l : List UInt8} (h : WorkB B w g q (.slice (some ⟨gf, 0, none⟩) n fc) C M D l) (ht : Turn w w' gf) {cur : Array Value} (hg : w.heap[gf]? = some (.cells cur 3 (0, 0))) {m : Nat} {free : List Int} (ho : OwnI B w' (.slice (some ⟨gf, 0, none⟩) m fc) free) :
 WorkB B (w'.setCell ⟨g, 2, none⟩ (.slice (some ⟨gf, 0, none⟩) m fc)) g { q with free := free } (.slice (some ⟨gf, 0, none⟩) m fc) C M D l :=
 have hr := ht.wk h hg tIW
 have hq := h.turnF ht hg ho
 ⟨h.lo, row_put hr 2 _, hq.1.stay hr twI twC 2 _, hq.2.stay hr twU 2 _⟩
theorem WorkB.sortF {w w' : World} {B g gf n fc : Nat} {q : QQ} {C M : Value} {D : List Value} {l : List UInt8} (h : WorkB B w g q (.slice (some ⟨gf, 0, none⟩) n fc) C M D l) (ht : Turn w w' gf) {cur : Array Value} (hg : w.heap[gf]? = some (.cells cur 3 (0, 0))) {free : List Int} (ho : OwnI B w' (.slice (some ⟨gf, 0, none⟩) n fc) free) :
 WorkB B w' g { q with free := free } (.slice (some ⟨gf, 0, none⟩) n fc) C M D l :=
 have hq := h.turnF ht hg ho
 have hr := ht.wk h hg tIW
 ⟨h.lo, hr, hq.1, hq.2⟩
theorem WorkB.growF {w w' : World} {B g : Nat} {q : QQ} {F F2 C M : Value} {D : List Value} {l : List UInt8} {free : List Int} (h : WorkB B w g q F C M D l) (hg : Grew B w w' F F2 3 1 free.length (free.map (Value.int .i64))) :
 WorkB B (w'.setCell ⟨g, 2, none⟩ F2) g { q with free := free } F2 C M D l := by
 have hr := hg.other h.isq.free h.row twI
 have hc : OwnC B w' C q.chains D := ⟨h.isq.chains.len, owns_keep h.isq.chains.row fun k c _ hk => hg.other h.isq.free hk tCI, fun i d c hd hc => owns_keep (h.isq.chains.ds i d c hd hc) fun k cur hk hcur => hg.row k _ hcur (fun e => h.isq.apart i d k hd hk e)⟩
 have hap : ∀ (i : Nat) (d : Value) (p : Nat), D[i]? = some d → d.ownBlock = some p → F2.ownBlock ≠ some p := fun i d p hd hp e => by
  rcases hg.blk p e with e | e
  · exact h.isq.apart i d p hd hp e
  · have hi : i < q.chains.length := by rw [← h.isq.chains.len]; exact (List.getElem?_eq_some_iff.1 hd).1
    have := ((h.isq.chains.ds i d _ hd (List.getElem?_eq_getElem hi)).lt p hp).2
    omega
 have hq : IsQ B w' F2 C { q with free := free } D := ⟨hg.own, hc, hap⟩
 have hm : OwnB 0 w' M l := owns_keep h.mem fun k c _ hk => hg.other h.isq.free hk (fun e => tIU e.symm)
 exact ⟨h.lo, row_put hr 2 _, hq.stay hr twI twC 2 _, hm.stay hr twU 2 _⟩
theorem WorkB.push {w w' : World} {B g : Nat} {q : QQ} {F C C2 M Dv : Value} {D : List Value} {l : List UInt8} {c : QCh} (h : WorkB B w g q F C M D l) (hg : Grew B w w' C C2 76 3 (q.chains.length + 1) (chCells q.chains D ++ [.int .i64 c.head, Dv, .int .i64 c.room])) (hd : OwnI B w Dv c.ds) (hap : ∀ p, Dv.ownBlock = some p → F.ownBlock ≠ some p) :
 WorkB B (w'.setCell ⟨g, 5, none⟩ C2) g { q with chains := q.chains ++ [c] } F C2 M (D ++ [Dv]) l := by
 have hr := hg.other h.isq.chains.row h.row twC
 have ki : ∀ {v : Value} {x : List Int}, OwnI B w v x → OwnI B w' v x := fun h1 => owns_keep h1 fun k cur _ hk => hg.other h.isq.chains.row hk tIC
 have hq : IsQ B w' F C2 { q with chains := q.chains ++ [c] } (D ++ [Dv]) := by
  refine ⟨ki h.isq.free, ⟨by simp [h.isq.chains.len], ?_, fun i d x hd2 hx => ?_⟩, fun i d p hd2 hp => ?_⟩
  · rw [List.length_append, chCells_append h.isq.chains.len]
    exact hg.own
  · by_cases hi : i < q.chains.length
    · rw [List.getElem?_append_left (by rw [h.isq.chains.len]; exact hi)] at hd2
      rw [List.getElem?_append_left hi] at hx
      exact ki (h.isq.chains.ds i d x hd2 hx)
    · rw [List.getElem?_append_right (by rw [h.isq.chains.len]; omega), h.isq.chains.len] at hd2
      rw [List.getElem?_append_right (by omega)] at hx
      obtain ⟨e1, _⟩ := List.getElem?_eq_some_iff.1 hx
      have e2 : i - q.chains.length = 0 := by simpa using e1
      rw [e2] at hd2 hx
      simp at hd2 hx
      subst hd2
      subst hx
      exact ki hd
  · by_cases hi : i < D.length
    · rw [List.getElem?_append_left hi] at hd2
      exact h.isq.apart i d p hd2 hp
    · rw [List.getElem?_append_right (by omega)] at hd2
      obtain ⟨e1, _⟩ := List.getElem?_eq_some_iff.1 hd2
      have e2 : i - D.length = 0 := by simpa using e1
      rw [e2] at hd2
      simp at hd2
      subst hd2
      exact hap p hp
 have hm : OwnB 0 w' M l := owns_keep h.mem fun k cur _ hk => hg.other h.isq.chains.row hk (fun e => tChU e.symm)
 exact ⟨h.lo, row_put hr 5 _, hq.stay hr twI twC 5 _, hm.stay hr twU 5 _⟩
theorem WorkB.pop {w w' : World} {B g gc n cc i : Nat} {q : QQ} {F M : Value} {D : List Value} {l : List UInt8} (h : WorkB B w g q F (.slice (some ⟨gc, 0, none⟩) n cc) M D l) (ht : Turn w w' gc) {cur : Array Value} (hg : w.heap[gc]? = some (.cells cur 76 (0, 0))) {m : Nat}
 (ho : w'.ownsRow B 76 3 (.slice (some ⟨gc, 0, none⟩) m cc) (q.chains.eraseIdx i).length (chCells (q.chains.eraseIdx i) (D.eraseIdx i))) :
 WorkB B (w'.setCell ⟨g, 5, none⟩ (.slice (some ⟨gc, 0, none⟩) m cc)) g { q with chains := q.chains.eraseIdx i } F (.slice (some ⟨gc, 0, none⟩) m cc) M (D.eraseIdx i) l := by
 have hr := ht.wk h hg tChW
 have ki : ∀ {v : Value} {x : List Int}, OwnI B w v x → OwnI B w' v x := fun h1 => ht.other hg tCI h1
 have hq : IsQ B w' F (.slice (some ⟨gc, 0, none⟩) m cc) { q with chains := q.chains.eraseIdx i } (D.eraseIdx i) := by
  refine ⟨ki h.isq.free, ⟨?_, ho, fun j d x hd hx => ?_⟩, fun j d p hd hp => ?_⟩
  · simp only [List.length_eraseIdx, h.isq.chains.len]
  · simp only [List.getElem?_eraseIdx] at hd hx
    by_cases hj : j < i
    · rw [if_pos hj] at hd hx
      exact ki (h.isq.chains.ds _ d x hd hx)
    · rw [if_neg hj] at hd hx
      exact ki (h.isq.chains.ds _ d x hd hx)
  · simp only [List.getElem?_eraseIdx] at hd
    by_cases hj : j < i
    · rw [if_pos hj] at hd
      exact h.isq.apart _ d p hd hp
    · rw [if_neg hj] at hd
      exact h.isq.apart _ d p hd hp
 exact ⟨h.lo, row_put hr 5 _, hq.stay hr twI twC 5 _, (show OwnB 0 w' M l from ht.other hg tChU h.mem).stay hr twU 5 _⟩
theorem WorkB.setL {w : World} {B g : Nat} {q : QQ} {F C M : Value} {D : List Value} {l : List UInt8} (h : WorkB B w g q F C M D l) (t : Nat) : WorkB B (w.setCell ⟨g, 4, none⟩ (.int .u16 (t : Nat))) g { q with last := t } F C M D l :=
 ⟨h.lo, row_put h.row 4 _, (h.isq.stay h.row twI twC 4 _).as rfl rfl, h.mem.stay h.row twU 4 _⟩
theorem WorkB.setA {w : World} {B g : Nat} {q : QQ} {F C M : Value} {D : List Value} {l : List UInt8} (h : WorkB B w g q F C M D l) (t : Nat) : WorkB B (w.setCell ⟨g, 3, none⟩ (.int .u16 (t : Nat))) g { q with avail := t } F C M D l :=
 ⟨h.lo, row_put h.row 3 _, (h.isq.stay h.row twI twC 3 _).as rfl rfl, h.mem.stay h.row twU 3 _⟩
theorem WorkB.setM {w : World} {B g : Nat} {q : QQ} {F C M M2 : Value} {D : List Value} {l l2 : List UInt8} (h : WorkB B w g q F C M D l) (hm : OwnB 0 w M2 l2) : WorkB B (w.setCell ⟨g, 6, none⟩ M2) g q F C M2 D l2 :=
 ⟨h.lo, row_put h.row 6 _, h.isq.stay h.row twI twC 6 _, hm.stay h.row twU 6 _⟩
theorem Spare.grew {w w' : World} {B n s m : Nat} {T : Nat → Bool} {v v' : Value} {e : TypeId} {xs ys : List Value} (h : Grew B w w' v v' e s n xs) (hv : w.ownsRow B e s v m ys) (hT : T e = true) : Spare w w' B T :=
 ⟨h.below, fun k cs t fr hk ht => h.other hv hk (fun e' => by
  have e'' : t = e := e'
  rw [e'', hT] at ht
  cases ht)⟩
end Go.Proofs.YtnmekbbnglkmcaaGreat
namespace Go.Proofs.YtnmekbbnglkmcaaGreat
open Go.RowKit Go.Lib
theorem WorkB.awayC {B g r : Nat} {w : World} {q : QQ} {F C M : Value} {D : List Value} {l : List UInt8} {cs : Array Value} {fr : Nat × Nat} (h : WorkB B w g q F C M D l) (hr : w.heap[r]? = some (.cells cs 76 fr)) (hne : C.ownBlock ≠ some r) (j : Nat) (u : Value) : WorkB B (w.setCell ⟨r, j, none⟩ u) g q F C M D l :=
 ⟨h.lo, one_other h.row _ _ (blocks_ne h.row hr tChW), ⟨h.isq.free.stay hr tCI j u, ⟨h.isq.chains.len, owns_keep h.isq.chains.row fun k c hk hc => one_other hc _ _ (fun e => hne (by rw [show r = k from e]; exact hk)), fun i d c hd hc => (h.isq.chains.ds i d c hd hc).stay hr tCI j u⟩, h.isq.apart⟩, h.mem.stay hr tChU j u⟩
theorem in_range (b : QB) (L : Nat) (h : InB L b) (hL : L ≤ 8192) : 0 ≤ b.2.1 ∧ b.2.1 ≤ 8192 := by
 obtain ⟨h1, h2, h3⟩ := h
 omega
structure QueChainA where
 b0 : Bool
 b1 : Bool
 b2 : Bool
 b3 : Bool
 b4 : Bool
 b5 : Bool
 b6 : Bool
 b7 : Bool
 b8 : Bool
 b9 : Bool
 b10 : Bool
 b11 : Bool
 b12 : Bool
 b13 : Bool
 b14 : Bool
 b15 : Bool
 b16 : Bool
 b17 : Bool
 b18 : Bool
 s8 : Value
 s9 : Value
 s10 : Value
 s11 : Value
 s12 : Value
 s13 : Value
 s14 : Value
 s15 : Value
 s16 : Value
 s17 : Value
 s18 : Value
 s19 : Value
 s20 : Value
 s21 : Value
 s22 : Value
 s23 : Value
 s24 : Value
 s5 : Value
structure QueChainB where
 b0 : Bool
 b1 : Bool
 b2 : Bool
 b3 : Bool
 b4 : Bool
 b5 : Bool
 b6 : Bool
 b7 : Bool
 b8 : Bool
 b9 : Bool
 b10 : Bool
 b11 : Bool
 b12 : Bool
 s52 : Value
 s53 : Value
 s54 : Value
 s55 : Value
 s56 : Value
 s57 : Value
 s58 : Value
 s59 : Value
 s60 : Value
 s61 : Value
 s62 : Value
 s63 : Value
theorem three_news {w : World} {g : Nat} {a b c : Value} (h0 : w.cell? ⟨g, 0, none⟩ = some a) (h1 : w.cell? ⟨g, 1, none⟩ = some b) (h2 : w.cell? ⟨g, 2, none⟩ = some c) : ∀ j u, [a, b, c][j]? = some u → w.cell? ((⟨g, 0, none⟩ : Addr).add j) = some u := by
 intro j u hu
 rw [Addr.add_lit, Nat.zero_add]
 match j, hu with
 | 0, hu => simp at hu; rw [← hu]; exact h0
 | 1, hu => simp at hu; rw [← hu]; exact h1
 | 2, hu => simp at hu; rw [← hu]; exact h2
 | j + 3, hu => simp at hu
theorem three_one (a : Int) (p : Option Addr) (n c : Nat) (z : Int) : ∀ u ∈ [Value.int .i64 a, .slice p n c, .int .i64 z], u.oneCell' = true := by
 intro u hu
 simp at hu
 rcases hu with rfl | rfl | rfl <;> rfl
set_option maxHeartbeats 4000000 in
set_option maxRecDepth 100000 in
theorem chain_any (B g : Nat) (q : QQ) (N : Nat) (F C M v : Value) (D : List Value) (l : List UInt8) (bs : List QB) (w : World) (hw : WorkB B w g q F C M D l) (hbf : OwnBf 0 w v bs) (hg : GoodQ q N) (h1 : 1 ≤ bs.length) (h2 : bs.length ≤ q.free.length) (h3 : ∀ x ∈ bs, InB l.length x) (hl8 : l.length ≤ 8192) (hB : B ≤ w.heap.size) :
 Calls Tryz.prog 26 #[.pointer (some ⟨g, 0, none⟩), v] w fun e w' => ∃ F2 C2 Dv, e = .returned (.agg #[.int .i64 (addC q bs).head, Dv, .int .i64 (addC q bs).room]) ∧ WorkB B w' g { q with free := q.free.drop bs.length, chains := q.chains ++ [addC q bs] } F2 C2 M (D ++ [Dv]) l ∧ OwnI B w' Dv (addC q bs).ds ∧ Spare w w' B dirtyQ := by
 obtain ⟨few1, few2, few3, few4, few5⟩ := hg.few
 have hzN := hg.size
 obtain ⟨fa, fn, fc, ca, cn, cc, rfl, rfl, hfn, hcn, k1, k2, k3, k4⟩ := hw.isq.shape
 obtain ⟨b, z, fr, av, la, ch⟩ := q
 simp only [addC] at *
 obtain ⟨va, vc, rfl, hv1, hv2⟩ := hw.mem.shape
 obtain ⟨L, hL⟩ : ∃ L, L = l.length := ⟨_, rfl⟩
 obtain ⟨ba, bc, rfl, hb1, hb2⟩ := hbf.shape
 obtain ⟨n, hn⟩ : ∃ n, n = bs.length := ⟨_, rfl⟩
 rw [← hn] at h1 h2 hbf hb1 ⊢
 rw [← hL] at hw h3 hl8 ⊢
 rw [← hfn] at h2
 subst hzN
 obtain ⟨gb, rfl, hgb⟩ := hbf.lie (by omega)
 obtain ⟨gf, fcur, rfl, p1, p2, hfrow, p3, p4, p5⟩ := hw.isq.free.lie (by intro e; simp only at e; rw [e] at hfn; simp at hfn; omega)
 obtain ⟨hd, hhd⟩ : ∃ x, fr.getD 0 0 = x := ⟨_, rfl⟩
 rw [hhd]
 have HHD := Lib.hid hhd
 have HFR := Lib.hid hfrow
 have HGF := Lib.hid (show gf < w.heap.size from p2)
 have HFP := Lib.hid (show 0 < fr.length by omega)
 have HNF := Lib.hid (show n ≤ fr.length by omega)
 have HFL := Lib.hid (show fr.length ≤ 1000 by omega)
 have HTN := Lib.hid (show (fr.take n).length = n by rw [List.length_take]; omega)
 have HCL := Lib.hid (show ch.length + 1 ≤ 1000 by omega)
 have HL8 := Lib.hid hl8
 have HIN := Lib.hid h3
 have HN := Lib.hid hn
 have HFN := Lib.hid hfn
 have HCN := Lib.hid hcn
 have hn16 : n ≤ 16 := by omega
 have hfn0 : 0 < fn := by omega
 have hnfc : n ≤ fc := by omega
 have hnfn : n ≤ fn := h2
 obtain ⟨ic, hic, hcz0, hcz1, hcz2⟩ := info_parts infoCh
 have hbase : Below w.heap.size w (w.alloc (.cells #[.int .i64 0, .slice none 0 0, .int .i64 0] 76)) := (Below.refl _ _).alloc (Nat.le_refl _) _
 have HB0 := Lib.hid hbase
 have HW := Lib.hid hw
 have HW0 := Lib.hid (hw.below hbase)
 have HBF := Lib.hid (hbf.below hbase)
 have HR4 := Lib.hid (heap_alloc_new w (.cells #[.int .i64 0, .slice none 0 0, .int .i64 0] 76))
 have HBB := Lib.hid hB
 have HBS := Lib.hid (show (w.alloc (.cells #[.int .i64 0, .slice none 0 0, .int .i64 0] 76)).heap.size = w.heap.size + 1 by simp)
 clear hw hbf hg h2 h3 hl8 few1 few2 few3 few4 few5 hfn hcn k1 k2 k3 k4 hv1 hv2 hL hb1 hb2 hn hhd hfrow p1 p2 p3 p4 p5 hbase hB
 go_enter Tryz.func26, Tryz.ntmps26
 go_wp2_with fail
 refine wp_region_rec (X := QueChainA) (by kernel_rfl) (by kernel_rfl) (fun x => #[x.b0, x.b1, x.b2, x.b3, x.b4, x.b5, x.b6, x.b7, x.b8, x.b9, x.b10, x.b11, x.b12, x.b13, x.b14, x.b15, x.b16, x.b17, x.b18]) (fun x => { tmps := List.toArray ((.pointer (some ⟨g, 0, none⟩)) :: (.slice (some ⟨gb, 0, none⟩) n bc) :: undef :: undef :: (.pointer (some ⟨w.heap.size, 0, none⟩)) :: x.s5 :: undef :: undef :: x.s8 :: x.s9 :: x.s10 :: x.s11 :: x.s12 :: x.s13 :: x.s14 :: x.s15 :: x.s16 :: x.s17 :: x.s18 :: x.s19 :: x.s20 :: x.s21 :: x.s22 :: x.s23 :: x.s24 :: undef :: undef :: undef :: undef :: undef :: undef :: undef :: undef :: undef :: undef :: undef :: undef :: undef :: undef :: undef :: undef :: undef :: undef :: undef :: undef :: undef :: undef :: undef :: undef :: undef :: undef :: undef :: undef :: undef :: undef :: undef :: undef :: undef :: undef :: undef :: undef :: undef :: undef :: undef :: undef :: []), defers := [] }) (fun x W => (x.b0 = true → x.s8 = .pointer (some ⟨g, 0, none⟩)) ∧ (x.b1 = true → x.s9 = .pointer (some ⟨g, 0, none⟩)) ∧ (x.b2 = true → x.s10 = .pointer (some ⟨g, 0, none⟩)) ∧ (x.b3 = true → x.s11 = .pointer (some ⟨g, 2, none⟩)) ∧ (x.b4 = true → x.s12 = .slice (some ⟨gf, 0, none⟩) fn fc) ∧ (x.b5 = true → x.s13 = .pointer (some ⟨gf, 0, none⟩)) ∧ (x.b6 = true → x.s14 = .int .i64 hd) ∧ (x.b7 = true → x.s15 = .pointer (some ⟨g, 0, none⟩)) ∧ (x.b8 = true → x.s16 = .pointer (some ⟨g, 0, none⟩)) ∧ (x.b9 = true → x.s17 = .pointer (some ⟨g, 0, none⟩)) ∧ (x.b10 = true → x.s18 = .pointer (some ⟨g, 2, none⟩)) ∧ (x.b11 = true → x.s19 = .slice (some ⟨gf, 0, none⟩) fn fc) ∧ (x.b12 = true → x.s20 = .slice (some ⟨gb, 0, none⟩) n bc) ∧ (x.b13 = true → x.s21 = .int .i64 (n : Nat)) ∧ (x.b14 = true → x.s22 = .slice (some ⟨gf, 0, none⟩) n fc) ∧ (x.b18 = true → x.b15 = true ∧ x.b16 = true ∧ x.b17 = true) ∧ (x.b16 = true → x.b15 = true) ∧ (W.heap[g]? = some (.cells #[.int .i64 b, .int .i64 (N : Nat), .slice (some ⟨gf, 0, none⟩) fn fc, .int .u16 (av : Nat), .int .u16 (la : Nat), .slice ca cn cc, .slice va L vc] 74 (0, 0))) ∧ (Below (w.alloc (.cells #[.int .i64 0, .slice none 0 0, .int .i64 0] 76)).heap.size (w.alloc (.cells #[.int .i64 0, .slice none 0 0, .int .i64 0] 76)) W) ∧ (x.b15 = true → ∃ da dc, x.s23 = .slice da n dc ∧ OwnI (w.alloc (.cells #[.int .i64 0, .slice none 0 0, .int .i64 0] 76)).heap.size W (.slice da n dc) (fr.take n)) ∧ (x.b16 = true → ∃ da dc, x.s24 = .agg #[.int .i64 hd, .slice da n dc, .int .i64 0] ∧ OwnI (w.alloc (.cells #[.int .i64 0, .slice none 0 0, .int .i64 0] 76)).heap.size W (.slice da n dc) (fr.take n)) ∧ (x.b18 = false → x.b17 = true → ∃ gx, x.s5 = .pointer (some ⟨gx, 0, none⟩) ∧ (w.alloc (.cells #[.int .i64 0, .slice none 0 0, .int .i64 0] 76)).heap.size ≤ gx ∧ W.heap[gx]? = some (.cells #[.int .i64 0, .slice none 0 0, .int .i64 0] 76 (0, 0))) ∧ (x.b18 = true → ∃ gx da dc, x.s5 = .pointer (some ⟨gx, 0, none⟩) ∧ (w.alloc (.cells #[.int .i64 0, .slice none 0 0, .int .i64 0] 76)).heap.size ≤ gx ∧ W.heap[gx]? = some (.cells #[.int .i64 hd, .slice da n dc, .int .i64 0] 76 (0, 0)) ∧ OwnI (w.alloc (.cells #[.int .i64 0, .slice none 0 0, .int .i64 0] 76)).heap.size W (.slice da n dc) (fr.take n))) ⟨false, false, false, false, false, false, false, false, false, false, false, false, false, false, false, false, false, false, false, undef, undef, undef, undef, undef, undef, undef, undef, undef, undef, undef, undef, undef, undef, undef, undef, undef, undef⟩ rfl rfl ⟨(fun h => by cases h), (fun h => by cases h), (fun h => by cases h), (fun h => by cases h), (fun h => by cases h), (fun h => by cases h), (fun h => by cases h), (fun h => by cases h), (fun h => by cases h), (fun h => by cases h), (fun h => by cases h), (fun h => by cases h), (fun h => by cases h), (fun h => by cases h), (fun h => by cases h), (fun h => by cases h), (fun h => by cases h), HW0.out.row, (Below.refl _ _).drew, (fun h => by cases h), (fun h => by cases h), (fun _ h => by cases h), (fun h => by cases h)⟩ (fun _ => rfl) ?hstep ?hdone
 case hstep =>
  rintro ⟨b0, b1, b2, b3, b4, b5, b6, b7, b8, b9, b10, b11, b12, b13, b14, b15, b16, b17, b18, s8, s9, s10, s11, s12, s13, s14, s15, s16, s17, s18, s19, s20, s21, s22, s23, s24, s5⟩ W hI i hi
  dsimp only at hI hi ⊢
  have HI := Lib.hid hI
  clear hI
  rw [Region.ready, List.mem_filter, List.mem_range] at hi
  obtain ⟨hlt, hp⟩ := hi
  have hi7 : i = 0 ∨ i = 1 ∨ i = 2 ∨ i = 3 ∨ i = 4 ∨ i = 5 ∨ i = 6 ∨ i = 7 ∨ i = 8 ∨ i = 9 ∨ i = 10 ∨ i = 11 ∨ i = 12 ∨ i = 13 ∨ i = 14 ∨ i = 15 ∨ i = 16 ∨ i = 17 ∨ i = 18 := by simp at hlt; omega
  clear hlt
  rcases hi7 with rfl | rfl | rfl | rfl | rfl | rfl | rfl | rfl | rfl | rfl | rfl | rfl | rfl | rfl | rfl | rfl | rfl | rfl | rfl
  all_goals simp [Region.binds] at hp
  · have hn0 : b0 = false := by revert hp; cases b0 <;> simp
    clear hp
    subst hn0
    refine inv_op (o := ⟨some 8, _, _, _, _, _⟩) rfl (fun K' hK' => ?_)
    go_simp
    obtain ⟨h0, h1, h2, h3, h4, h5, h6, h7, h8, h9, h10, h11, h12, h13, h14, gi18, gi16, rW, gB, gD, gE, gA, gS⟩ := HI.out
    exact hK'.out _ _ ⟨⟨true, b1, b2, b3, b4, b5, b6, b7, b8, b9, b10, b11, b12, b13, b14, b15, b16, b17, b18, _, s9, s10, s11, s12, s13, s14, s15, s16, s17, s18, s19, s20, s21, s22, s23, s24, s5⟩, rfl, rfl, (fun _ => rfl), h1, h2, h3, h4, h5, h6, h7, h8, h9, h10, h11, h12, h13, h14, gi18, gi16, rW, gB, gD, gE, gA, gS⟩
  · have hn1 : b1 = false := by revert hp; cases b1 <;> simp
    have e0 : b0 = true := by revert hp; cases b0 <;> simp
    clear hp
    obtain rfl := (HI.out.1) e0
    subst hn1
    refine inv_op (o := ⟨some 9, _, _, _, _, _⟩) rfl (fun K' hK' => ?_)
    go_simp
    obtain ⟨h0, h1, h2, h3, h4, h5, h6, h7, h8, h9, h10, h11, h12, h13, h14, gi18, gi16, rW, gB, gD, gE, gA, gS⟩ := HI.out
    exact hK'.out _ _ ⟨⟨b0, true, b2, b3, b4, b5, b6, b7, b8, b9, b10, b11, b12, b13, b14, b15, b16, b17, b18, _, _, s10, s11, s12, s13, s14, s15, s16, s17, s18, s19, s20, s21, s22, s23, s24, s5⟩, rfl, rfl, h0, (fun _ => rfl), h2, h3, h4, h5, h6, h7, h8, h9, h10, h11, h12, h13, h14, gi18, gi16, rW, gB, gD, gE, gA, gS⟩
  · have hn2 : b2 = false := by revert hp; cases b2 <;> simp
    have e1 : b1 = true := by revert hp; cases b1 <;> simp
    clear hp
    obtain rfl := (HI.out.2.1) e1
    subst hn2
    refine inv_op (o := ⟨some 10, _, _, _, _, _⟩) rfl (fun K' hK' => ?_)
    go_simp
    obtain ⟨h0, h1, h2, h3, h4, h5, h6, h7, h8, h9, h10, h11, h12, h13, h14, gi18, gi16, rW, gB, gD, gE, gA, gS⟩ := HI.out
    exact hK'.out _ _ ⟨⟨b0, b1, true, b3, b4, b5, b6, b7, b8, b9, b10, b11, b12, b13, b14, b15, b16, b17, b18, s8, _, _, s11, s12, s13, s14, s15, s16, s17, s18, s19, s20, s21, s22, s23, s24, s5⟩, rfl, rfl, h0, h1, (fun _ => rfl), h3, h4, h5, h6, h7, h8, h9, h10, h11, h12, h13, h14, gi18, gi16, rW, gB, gD, gE, gA, gS⟩
  · have hn3 : b3 = false := by revert hp; cases b3 <;> simp
    have e2 : b2 = true := by revert hp; cases b2 <;> simp
    clear hp
    obtain rfl := (HI.out.2.2.1) e2
    subst hn3
    refine inv_op (o := ⟨some 11, _, _, _, _, _⟩) rfl (fun K' hK' => ?_)
    go_simp
    obtain ⟨h0, h1, h2, h3, h4, h5, h6, h7, h8, h9, h10, h11, h12, h13, h14, gi18, gi16, rW, gB, gD, gE, gA, gS⟩ := HI.out
    exact hK'.out _ _ ⟨⟨b0, b1, b2, true, b4, b5, b6, b7, b8, b9, b10, b11, b12, b13, b14, b15, b16, b17, b18, s8, s9, _, _, s12, s13, s14, s15, s16, s17, s18, s19, s20, s21, s22, s23, s24, s5⟩, rfl, rfl, h0, h1, h2, (fun _ => rfl), h4, h5, h6, h7, h8, h9, h10, h11, h12, h13, h14, gi18, gi16, rW, gB, gD, gE, gA, gS⟩
  · have hn4 : b4 = false := by revert hp; cases b4 <;> simp
    have e3 : b3 = true := by revert hp; cases b3 <;> simp
    clear hp
    obtain rfl := (HI.out.2.2.2.1) e3
    subst hn4
    refine inv_op (o := ⟨some 12, _, _, _, _, _⟩) rfl (fun K' hK' => ?_)
    have rW := HI.out.2.2.2.2.2.2.2.2.2.2.2.2.2.2.2.2.2.1
    obtain ⟨hc2, _⟩ := at_cell rW 2 _ rfl
    go_simp
    obtain ⟨h0, h1, h2, h3, h4, h5, h6, h7, h8, h9, h10, h11, h12, h13, h14, gi18, gi16, rW, gB, gD, gE, gA, gS⟩ := HI.out
    exact hK'.out _ _ ⟨⟨b0, b1, b2, b3, true, b5, b6, b7, b8, b9, b10, b11, b12, b13, b14, b15, b16, b17, b18, s8, s9, s10, _, _, s13, s14, s15, s16, s17, s18, s19, s20, s21, s22, s23, s24, s5⟩, rfl, rfl, h0, h1, h2, h3, (fun _ => rfl), h5, h6, h7, h8, h9, h10, h11, h12, h13, h14, gi18, gi16, rW, gB, gD, gE, gA, gS⟩
  · have hn5 : b5 = false := by revert hp; cases b5 <;> simp
    have e4 : b4 = true := by revert hp; cases b4 <;> simp
    clear hp
    obtain rfl := (HI.out.2.2.2.2.1) e4
    subst hn5
    refine inv_op (o := ⟨some 13, _, _, _, _, _⟩) rfl (fun K' hK' => ?_)
    go_simp
    obtain ⟨h0, h1, h2, h3, h4, h5, h6, h7, h8, h9, h10, h11, h12, h13, h14, gi18, gi16, rW, gB, gD, gE, gA, gS⟩ := HI.out
    exact hK'.out _ _ ⟨⟨b0, b1, b2, b3, b4, true, b6, b7, b8, b9, b10, b11, b12, b13, b14, b15, b16, b17, b18, s8, s9, s10, s11, _, _, s14, s15, s16, s17, s18, s19, s20, s21, s22, s23, s24, s5⟩, rfl, rfl, h0, h1, h2, h3, h4, (fun _ => rfl), h6, h7, h8, h9, h10, h11, h12, h13, h14, gi18, gi16, rW, gB, gD, gE, gA, gS⟩
  · have hn6 : b6 = false := by revert hp; cases b6 <;> simp
    have e5 : b5 = true := by revert hp; cases b5 <;> simp
    clear hp
    obtain rfl := (HI.out.2.2.2.2.2.1) e5
    subst hn6
    refine inv_op (o := ⟨some 14, _, _, _, _, _⟩) rfl (fun K' hK' => ?_)
    have gB := HI.out.2.2.2.2.2.2.2.2.2.2.2.2.2.2.2.2.2.2.1
    have hc0 := (HW0.out.isq.free.below gB).at 0 HFP.out
    rw [show fr.getD 0 0 = hd from HHD.out] at hc0
    go_simp
    obtain ⟨h0, h1, h2, h3, h4, h5, h6, h7, h8, h9, h10, h11, h12, h13, h14, gi18, gi16, rW, gB, gD, gE, gA, gS⟩ := HI.out
    exact hK'.out _ _ ⟨⟨b0, b1, b2, b3, b4, b5, true, b7, b8, b9, b10, b11, b12, b13, b14, b15, b16, b17, b18, s8, s9, s10, s11, s12, _, _, s15, s16, s17, s18, s19, s20, s21, s22, s23, s24, s5⟩, rfl, rfl, h0, h1, h2, h3, h4, h5, (fun _ => rfl), h7, h8, h9, h10, h11, h12, h13, h14, gi18, gi16, rW, gB, gD, gE, gA, gS⟩
  · have hn7 : b7 = false := by revert hp; cases b7 <;> simp
    clear hp
    subst hn7
    refine inv_op (o := ⟨some 15, _, _, _, _, _⟩) rfl (fun K' hK' => ?_)
    go_simp
    obtain ⟨h0, h1, h2, h3, h4, h5, h6, h7, h8, h9, h10, h11, h12, h13, h14, gi18, gi16, rW, gB, gD, gE, gA, gS⟩ := HI.out
    exact hK'.out _ _ ⟨⟨b0, b1, b2, b3, b4, b5, b6, true, b8, b9, b10, b11, b12, b13, b14, b15, b16, b17, b18, s8, s9, s10, s11, s12, s13, s14, _, s16, s17, s18, s19, s20, s21, s22, s23, s24, s5⟩, rfl, rfl, h0, h1, h2, h3, h4, h5, h6, (fun _ => rfl), h8, h9, h10, h11, h12, h13, h14, gi18, gi16, rW, gB, gD, gE, gA, gS⟩
  · have hn8 : b8 = false := by revert hp; cases b8 <;> simp
    have e7 : b7 = true := by revert hp; cases b7 <;> simp
    clear hp
    obtain rfl := (HI.out.2.2.2.2.2.2.2.1) e7
    subst hn8
    refine inv_op (o := ⟨some 16, _, _, _, _, _⟩) rfl (fun K' hK' => ?_)
    go_simp
    obtain ⟨h0, h1, h2, h3, h4, h5, h6, h7, h8, h9, h10, h11, h12, h13, h14, gi18, gi16, rW, gB, gD, gE, gA, gS⟩ := HI.out
    exact hK'.out _ _ ⟨⟨b0, b1, b2, b3, b4, b5, b6, b7, true, b9, b10, b11, b12, b13, b14, b15, b16, b17, b18, s8, s9, s10, s11, s12, s13, s14, _, _, s17, s18, s19, s20, s21, s22, s23, s24, s5⟩, rfl, rfl, h0, h1, h2, h3, h4, h5, h6, h7, (fun _ => rfl), h9, h10, h11, h12, h13, h14, gi18, gi16, rW, gB, gD, gE, gA, gS⟩
  · have hn9 : b9 = false := by revert hp; cases b9 <;> simp
    have e8 : b8 = true := by revert hp; cases b8 <;> simp
    clear hp
    obtain rfl := (HI.out.2.2.2.2.2.2.2.2.1) e8
    subst hn9
    refine inv_op (o := ⟨some 17, _, _, _, _, _⟩) rfl (fun K' hK' => ?_)
    go_simp
    obtain ⟨h0, h1, h2, h3, h4, h5, h6, h7, h8, h9, h10, h11, h12, h13, h14, gi18, gi16, rW, gB, gD, gE, gA, gS⟩ := HI.out
    exact hK'.out _ _ ⟨⟨b0, b1, b2, b3, b4, b5, b6, b7, b8, true, b10, b11, b12, b13, b14, b15, b16, b17, b18, s8, s9, s10, s11, s12, s13, s14, s15, _, _, s18, s19, s20, s21, s22, s23, s24, s5⟩, rfl, rfl, h0, h1, h2, h3, h4, h5, h6, h7, h8, (fun _ => rfl), h10, h11, h12, h13, h14, gi18, gi16, rW, gB, gD, gE, gA, gS⟩
  · have hn10 : b10 = false := by revert hp; cases b10 <;> simp
    have e9 : b9 = true := by revert hp; cases b9 <;> simp
    clear hp
    obtain rfl := (HI.out.2.2.2.2.2.2.2.2.2.1) e9
    subst hn10
    refine inv_op (o := ⟨some 18, _, _, _, _, _⟩) rfl (fun K' hK' => ?_)
    go_simp
    obtain ⟨h0, h1, h2, h3, h4, h5, h6, h7, h8, h9, h10, h11, h12, h13, h14, gi18, gi16, rW, gB, gD, gE, gA, gS⟩ := HI.out
    exact hK'.out _ _ ⟨⟨b0, b1, b2, b3, b4, b5, b6, b7, b8, b9, true, b11, b12, b13, b14, b15, b16, b17, b18, s8, s9, s10, s11, s12, s13, s14, s15, s16, _, _, s19, s20, s21, s22, s23, s24, s5⟩, rfl, rfl, h0, h1, h2, h3, h4, h5, h6, h7, h8, h9, (fun _ => rfl), h11, h12, h13, h14, gi18, gi16, rW, gB, gD, gE, gA, gS⟩
  · have hn11 : b11 = false := by revert hp; cases b11 <;> simp
    have e10 : b10 = true := by revert hp; cases b10 <;> simp
    clear hp
    obtain rfl := (HI.out.2.2.2.2.2.2.2.2.2.2.1) e10
    subst hn11
    refine inv_op (o := ⟨some 19, _, _, _, _, _⟩) rfl (fun K' hK' => ?_)
    have rW := HI.out.2.2.2.2.2.2.2.2.2.2.2.2.2.2.2.2.2.1
    obtain ⟨hc2, _⟩ := at_cell rW 2 _ rfl
    go_simp
    obtain ⟨h0, h1, h2, h3, h4, h5, h6, h7, h8, h9, h10, h11, h12, h13, h14, gi18, gi16, rW, gB, gD, gE, gA, gS⟩ := HI.out
    exact hK'.out _ _ ⟨⟨b0, b1, b2, b3, b4, b5, b6, b7, b8, b9, b10, true, b12, b13, b14, b15, b16, b17, b18, s8, s9, s10, s11, s12, s13, s14, s15, s16, s17, _, _, s20, s21, s22, s23, s24, s5⟩, rfl, rfl, h0, h1, h2, h3, h4, h5, h6, h7, h8, h9, h10, (fun _ => rfl), h12, h13, h14, gi18, gi16, rW, gB, gD, gE, gA, gS⟩
  · have hn12 : b12 = false := by revert hp; cases b12 <;> simp
    clear hp
    subst hn12
    refine inv_op (o := ⟨some 20, _, _, _, _, _⟩) rfl (fun K' hK' => ?_)
    go_simp
    obtain ⟨h0, h1, h2, h3, h4, h5, h6, h7, h8, h9, h10, h11, h12, h13, h14, gi18, gi16, rW, gB, gD, gE, gA, gS⟩ := HI.out
    exact hK'.out _ _ ⟨⟨b0, b1, b2, b3, b4, b5, b6, b7, b8, b9, b10, b11, true, b13, b14, b15, b16, b17, b18, s8, s9, s10, s11, s12, s13, s14, s15, s16, s17, s18, s19, _, s21, s22, s23, s24, s5⟩, rfl, rfl, h0, h1, h2, h3, h4, h5, h6, h7, h8, h9, h10, h11, (fun _ => rfl), h13, h14, gi18, gi16, rW, gB, gD, gE, gA, gS⟩
  · have hn13 : b13 = false := by revert hp; cases b13 <;> simp
    have e12 : b12 = true := by revert hp; cases b12 <;> simp
    clear hp
    obtain rfl := (HI.out.2.2.2.2.2.2.2.2.2.2.2.2.1) e12
    subst hn13
    refine inv_op (o := ⟨some 21, _, _, _, _, _⟩) rfl (fun K' hK' => ?_)
    go_simp
    obtain ⟨h0, h1, h2, h3, h4, h5, h6, h7, h8, h9, h10, h11, h12, h13, h14, gi18, gi16, rW, gB, gD, gE, gA, gS⟩ := HI.out
    exact hK'.out _ _ ⟨⟨b0, b1, b2, b3, b4, b5, b6, b7, b8, b9, b10, b11, b12, true, b14, b15, b16, b17, b18, s8, s9, s10, s11, s12, s13, s14, s15, s16, s17, s18, s19, _, _, s22, s23, s24, s5⟩, rfl, rfl, h0, h1, h2, h3, h4, h5, h6, h7, h8, h9, h10, h11, h12, (fun _ => rfl), h14, gi18, gi16, rW, gB, gD, gE, gA, gS⟩
  · have hn14 : b14 = false := by revert hp; cases b14 <;> simp
    have e11 : b11 = true := by revert hp; cases b11 <;> simp
    have e13 : b13 = true := by revert hp; cases b13 <;> simp
    clear hp
    obtain rfl := (HI.out.2.2.2.2.2.2.2.2.2.2.2.1) e11
    obtain rfl := (HI.out.2.2.2.2.2.2.2.2.2.2.2.2.2.1) e13
    subst hn14
    refine inv_op (o := ⟨some 22, _, _, _, _, _⟩) rfl (fun K' hK' => ?_)
    go_simp
    obtain ⟨h0, h1, h2, h3, h4, h5, h6, h7, h8, h9, h10, h11, h12, h13, h14, gi18, gi16, rW, gB, gD, gE, gA, gS⟩ := HI.out
    exact hK'.out _ _ ⟨⟨b0, b1, b2, b3, b4, b5, b6, b7, b8, b9, b10, b11, b12, b13, true, b15, b16, b17, b18, s8, s9, s10, s11, s12, s13, s14, s15, s16, s17, s18, _, s20, _, _, s23, s24, s5⟩, rfl, rfl, h0, h1, h2, h3, h4, h5, h6, h7, h8, h9, h10, h11, h12, h13, (fun _ => rfl), gi18, gi16, rW, gB, gD, gE, gA, gS⟩
  · have hn15 : b15 = false := by revert hp; cases b15 <;> simp
    have e14 : b14 = true := by revert hp; cases b14 <;> simp
    clear hp
    obtain rfl := (HI.out.2.2.2.2.2.2.2.2.2.2.2.2.2.2.1) e14
    subst hn15
    refine inv_op (o := ⟨some 23, _, _, _, _, _⟩) rfl (fun K' hK' => ?_)
    have gi18 := HI.out.2.2.2.2.2.2.2.2.2.2.2.2.2.2.2.1
    have gi16 := HI.out.2.2.2.2.2.2.2.2.2.2.2.2.2.2.2.2.1
    have gB := HI.out.2.2.2.2.2.2.2.2.2.2.2.2.2.2.2.2.2.2.1
    have hbf18 : b18 = false := by cases b18 with | false => rfl | true => exact absurd ((gi18 rfl).1) (by decide)
    subst hbf18
    have hbf16 : b16 = false := by cases b16 with | false => rfl | true => exact absurd ((gi16 rfl)) (by decide)
    subst hbf16
    go_simp
    refine (cloneI_front _ _ _ _ n W (HW0.out.isq.free.below gB) HNF.out HFL.out).mono ?_
    rintro e w2 ⟨r, rfl, hr, bn⟩
    obtain ⟨da, dc, hrs, hr1, hr2⟩ := hr.shape
    rw [HTN.out] at hrs
    subst hrs
    clear hr1 hr2
    obtain ⟨h0, h1, h2, h3, h4, h5, h6, h7, h8, h9, h10, h11, h12, h13, h14, gi18, gi16, rW, gB, gD, gE, gA, gS⟩ := HI.out
    exact hK'.out _ _ ⟨⟨b0, b1, b2, b3, b4, b5, b6, b7, b8, b9, b10, b11, b12, b13, b14, true, false, b17, false, s8, s9, s10, s11, s12, s13, s14, s15, s16, s17, s18, s19, s20, s21, _, _, s24, s5⟩, rfl, rfl, h0, h1, h2, h3, h4, h5, h6, h7, h8, h9, h10, h11, h12, h13, h14, (fun e => by cases e), (fun e => by cases e), (row_keep rW bn), (gB.trans (bn.mono gB.size)), (fun _ => ⟨da, dc, rfl, hr.base gB.size⟩), (fun e => by cases e), (fun e e2 => by obtain ⟨gx, h1, h2, h3⟩ := gA e e2; exact ⟨gx, h1, h2, row_keep h3 bn⟩), (fun e => by cases e)⟩
  · have hn16 : b16 = false := by revert hp; cases b16 <;> simp
    have e6 : b6 = true := by revert hp; cases b6 <;> simp
    have e15 : b15 = true := by revert hp; cases b15 <;> simp
    clear hp
    obtain rfl := (HI.out.2.2.2.2.2.2.1) e6
    subst hn16
    refine inv_op (o := ⟨some 24, _, _, _, _, _⟩) rfl (fun K' hK' => ?_)
    have gi18 := HI.out.2.2.2.2.2.2.2.2.2.2.2.2.2.2.2.1
    have gD := HI.out.2.2.2.2.2.2.2.2.2.2.2.2.2.2.2.2.2.2.2.1
    have hbf18 : b18 = false := by cases b18 with | false => rfl | true => exact absurd ((gi18 rfl).2.1) (by decide)
    subst hbf18
    obtain ⟨da, dc, rfl, hp⟩ := gD e15
    go_simp
    obtain ⟨h0, h1, h2, h3, h4, h5, h6, h7, h8, h9, h10, h11, h12, h13, h14, gi18, gi16, rW, gB, gD, gE, gA, gS⟩ := HI.out
    exact hK'.out _ _ ⟨⟨b0, b1, b2, b3, b4, b5, b6, b7, b8, b9, b10, b11, b12, b13, b14, b15, true, b17, false, s8, s9, s10, s11, s12, s13, _, s15, s16, s17, s18, s19, s20, s21, s22, _, _, s5⟩, rfl, rfl, h0, h1, h2, h3, h4, h5, h6, h7, h8, h9, h10, h11, h12, h13, h14, (fun e => by cases e), (fun _ => e15), rW, gB, (fun _ => ⟨da, dc, rfl, hp⟩), (fun _ => ⟨da, dc, rfl, hp⟩), gA, (fun e => by cases e)⟩
  · have hn17 : b17 = false := by revert hp; cases b17 <;> simp
    clear hp
    subst hn17
    refine inv_op (o := ⟨some 5, _, _, _, _, _⟩) rfl (fun K' hK' => ?_)
    have gi18 := HI.out.2.2.2.2.2.2.2.2.2.2.2.2.2.2.2.1
    have hbf18 : b18 = false := by cases b18 with | false => rfl | true => exact absurd ((gi18 rfl).2.2) (by decide)
    subst hbf18
    have bn : Below W.heap.size W (W.alloc (.cells #[.int .i64 0, .slice none 0 0, .int .i64 0] 76)) := (Below.refl _ _).alloc (Nat.le_refl _) _
    have hn := heap_alloc_new W (.cells #[.int .i64 0, .slice none 0 0, .int .i64 0] 76)
    go_simp
    obtain ⟨h0, h1, h2, h3, h4, h5, h6, h7, h8, h9, h10, h11, h12, h13, h14, gi18, gi16, rW, gB, gD, gE, gA, gS⟩ := HI.out
    exact hK'.out _ _ ⟨⟨b0, b1, b2, b3, b4, b5, b6, b7, b8, b9, b10, b11, b12, b13, b14, b15, b16, true, false, s8, s9, s10, s11, s12, s13, s14, s15, s16, s17, s18, s19, s20, s21, s22, s23, s24, _⟩, rfl, rfl, h0, h1, h2, h3, h4, h5, h6, h7, h8, h9, h10, h11, h12, h13, h14, (fun e => by cases e), gi16, (row_keep rW bn), (gB.trans (bn.mono gB.size)), (fun e => by obtain ⟨y0, y1, h1, h2⟩ := gD e; exact ⟨y0, y1, h1, h2.below bn⟩), (fun e => by obtain ⟨y0, y1, h1, h2⟩ := gE e; exact ⟨y0, y1, h1, h2.below bn⟩), (fun _ _ => ⟨_, rfl, gB.size, hn⟩), (fun e => by cases e)⟩
  · have hn18 : b18 = false := by revert hp; cases b18 <;> simp
    have e16 : b16 = true := by revert hp; cases b16 <;> simp
    have e17 : b17 = true := by revert hp; cases b17 <;> simp
    have e15 : b15 = true := by revert hp; cases b15 <;> simp
    clear hp
    subst hn18
    refine inv_op (o := ⟨none, _, _, _, _, _⟩) rfl (fun K' hK' => ?_)
    have gE := HI.out.2.2.2.2.2.2.2.2.2.2.2.2.2.2.2.2.2.2.2.2.1
    have gA := HI.out.2.2.2.2.2.2.2.2.2.2.2.2.2.2.2.2.2.2.2.2.2.1
    obtain ⟨gx, rfl, hlo, hrow⟩ := gA rfl e17
    obtain ⟨da, dc, rfl, hp⟩ := gE e16
    obtain ⟨⟨hc0, hc1, hc2⟩, hz0, hz1, hz2⟩ := cells_three hrow
    have hlx := (Array.getElem?_eq_some_iff.1 hrow).1
    go_simp
    obtain ⟨h0, h1, h2, h3, h4, h5, h6, h7, h8, h9, h10, h11, h12, h13, h14, gi18, gi16, rW, gB, gD, gE, gA, gS⟩ := HI.out
    exact hK'.out _ _ ⟨⟨b0, b1, b2, b3, b4, b5, b6, b7, b8, b9, b10, b11, b12, b13, b14, b15, b16, b17, true, s8, s9, s10, s11, s12, s13, s14, s15, s16, s17, s18, s19, s20, s21, s22, s23, _, _⟩, rfl, rfl, h0, h1, h2, h3, h4, h5, h6, h7, h8, h9, h10, h11, h12, h13, h14, (fun _ => ⟨e15, e16, e17⟩), gi16, (one_other (one_other (one_other rW _ _ (blocks_ne rW hrow tChW)) _ _ (blocks_ne rW hrow tChW)) _ _ (blocks_ne rW hrow tChW)), (((gB.setCell (p := ⟨gx, 0, none⟩) hlo _).setCell (p := ⟨gx, 1, none⟩) hlo _).setCell (p := ⟨gx, 2, none⟩) hlo _), (fun e => by obtain ⟨y0, y1, h1, h2⟩ := gD e; exact ⟨y0, y1, h1, ((h2.stay hrow tCI 0 _).stay (row_put hrow 0 _) tCI 1 _).stay (row_put (row_put hrow 0 _) 1 _) tCI 2 _⟩), (fun _ => ⟨da, dc, rfl, ((hp.stay hrow tCI 0 _).stay (row_put hrow 0 _) tCI 1 _).stay (row_put (row_put hrow 0 _) 1 _) tCI 2 _⟩), (fun e => by cases e), (fun _ => ⟨gx, da, dc, rfl, hlo, row_put (row_put (row_put hrow 0 _) 1 _) 2 _, ((hp.stay hrow tCI 0 _).stay (row_put hrow 0 _) tCI 1 _).stay (row_put (row_put hrow 0 _) 1 _) tCI 2 _⟩)⟩
 case hdone =>
  rintro ⟨b0, b1, b2, b3, b4, b5, b6, b7, b8, b9, b10, b11, b12, b13, b14, b15, b16, b17, b18, s8, s9, s10, s11, s12, s13, s14, s15, s16, s17, s18, s19, s20, s21, s22, s23, s24, s5⟩ W hI hall
  dsimp only at hI hall ⊢
  have HI := Lib.hid hI
  clear hI
  obtain rfl : b0 = true := hall 0 (by decide)
  obtain rfl : b1 = true := hall 1 (by decide)
  obtain rfl : b2 = true := hall 2 (by decide)
  obtain rfl : b3 = true := hall 3 (by decide)
  obtain rfl : b4 = true := hall 4 (by decide)
  obtain rfl : b5 = true := hall 5 (by decide)
  obtain rfl : b6 = true := hall 6 (by decide)
  obtain rfl : b7 = true := hall 7 (by decide)
  obtain rfl : b8 = true := hall 8 (by decide)
  obtain rfl : b9 = true := hall 9 (by decide)
  obtain rfl : b10 = true := hall 10 (by decide)
  obtain rfl : b11 = true := hall 11 (by decide)
  obtain rfl : b12 = true := hall 12 (by decide)
  obtain rfl : b13 = true := hall 13 (by decide)
  obtain rfl : b14 = true := hall 14 (by decide)
  obtain rfl : b15 = true := hall 15 (by decide)
  obtain rfl : b16 = true := hall 16 (by decide)
  obtain rfl : b17 = true := hall 17 (by decide)
  obtain rfl : b18 = true := hall 18 (by decide)
  have gB := HI.out.2.2.2.2.2.2.2.2.2.2.2.2.2.2.2.2.2.2.1
  have gS := HI.out.2.2.2.2.2.2.2.2.2.2.2.2.2.2.2.2.2.2.2.2.2.2
  clear HI hall
  obtain ⟨gx, da, dc, rfl, hlo, hrow, hds⟩ := gS rfl
  rw [HBS.out] at hlo hds gB
  have HLO := Lib.hid hlo
  have HX := Lib.hid hrow
  have HD := Lib.hid hds
  have HGB := Lib.hid gB
  clear gS gB hlo hrow hds
  obtain ⟨wo, hwo⟩ : ∃ x, x = W := ⟨_, rfl⟩
  subst hwo
  go_wp2
  go_loopw [27] (fun i wr => ∃ k : Nat, k ≤ n ∧ i = .int .i64 k ∧ wr.heap[gx]? = some (.cells #[.int .i64 hd, .slice da n dc, .int .i64 (roomOf (bs.take k))] 76 (0, 0)) ∧ Below (w.heap.size + 1) (w.alloc (.cells #[.int .i64 0, .slice none 0 0, .int .i64 0] 76)) wr ∧ OwnI (w.heap.size + 1) wr (.slice da n dc) (fr.take n)) (fun i _ => n - (intOf i).toNat)
  case atStart => exact ⟨0, Nat.zero_le _, rfl, HX.out, HGB.out, HD.out⟩
  case round =>
   obtain ⟨k, hk, rfl, hX, hbw, hD⟩ := hrel
   have HXw := Lib.hid hX
   have HBw := Lib.hid hbw
   have HDw := Lib.hid hD
   have hbb : Below (w.alloc (.cells #[.int .i64 0, .slice none 0 0, .int .i64 0] 76)).heap.size (w.alloc (.cells #[.int .i64 0, .slice none 0 0, .int .i64 0] 76)) wr := hbw.mono (by rw [HBS.out]; exact Nat.le_refl _)
   have HWw := Lib.hid (HW0.out.below hbb)
   have HBFw := Lib.hid (HBF.out.below hbb)
   have HR4w := Lib.hid (row_keep HR4.out hbb)
   clear hX hbw hD hbb
   by_cases hlt : k < n
   · obtain ⟨px, py, pt, hx, g0, g1, g2⟩ := HBFw.out.at k (by rw [← HN.out]; exact hlt)
     have hin := in_range _ _ (HIN.out _ (List.mem_of_getElem? hx)) HL8.out
     simp only at hin
     have hrg := roomOf_range (l := bs.take k) (m := 8192) (fun x hx => in_range _ _ (HIN.out x (List.mem_of_mem_take hx)) HL8.out) (by decide)
     have hstep := roomOf_take_succ bs k (by rw [← HN.out]; exact hlt)
     have hgd : bs.getD k (0, 0, false) = (px, py, pt) := by rw [List.getD_eq_getElem?_getD, hx]; rfl
     rw [hgd] at hstep
     obtain ⟨ra, hra⟩ : ∃ x, roomOf (bs.take k) = x := ⟨_, rfl⟩
     obtain ⟨rb, hrb⟩ : ∃ x, roomOf (bs.take (k + 1)) = x := ⟨_, rfl⟩
     rw [hra] at HXw hrg hstep
     rw [hrb] at hstep
     have hkl : ((bs.take k).length : Int) ≤ 16 := by rw [List.length_take]; omega
     have hrl : ra ≤ 8192 * 16 := by have h7 : (8192 : Int) * ((bs.take k).length : Int) ≤ 8192 * 16 := (by omega); omega
     have hr0 : 0 ≤ ra := hrg.1
     obtain ⟨hp0, hp1⟩ := hin
     have HRB := Lib.hid hrb
     have hlen : 0 ≤ (k : Int) ∧ (k : Int) < (n : Int) := by omega
     obtain ⟨hl0, hl1⟩ := hlen
     have HXR := Lib.hid (row_new HXw.out (.cells #[.int .i64 px, .int .i64 py, .bool pt] 39))
     obtain ⟨⟨x0, x1, x2⟩, y0, y1, y2⟩ := cells_three HXR.out
     have hgxl : gx < wr.heap.size := (Array.getElem?_eq_some_iff.1 HXw.out).1
     have HBx := Lib.hid (HBw.out.alloc (by have := HBw.out.size; rw [HBS.out] at this; exact this) (.cells #[.int .i64 px, .int .i64 py, .bool pt] 39))
     have HDx := Lib.hid (HDw.out.below ((Below.refl wr.heap.size wr).alloc (Nat.le_refl _) (.cells #[.int .i64 px, .int .i64 py, .bool pt] 39)))
     clear hx hgd hrg hkl hra hrb
     cases pt with
     | true =>
       have hs2 : ra + py = rb := by rw [hstep]; simp
       have hb0 : 0 ≤ rb ∧ rb ≤ 1000000 := by omega
       obtain ⟨hb3, hb4⟩ := hb0
       clear hstep
       go_wp2
       go_roundw
       case rel =>
        refine ⟨k + 1, by omega, by go_num, ?_, (HBw.out.setCell (p := ⟨gx, 2, none⟩) HLO.out _).alloc (by rw [set_size]; have := HBw.out.size; rw [HBS.out] at this; exact this) _, (HDw.out.stay HXw.out tCI 2 _).below ((Below.refl _ _).alloc (Nat.le_refl _) _)⟩
        rw [HRB.out]
        exact row_new (row_put HXw.out 2 _) _
       case measure => simp [intOf]; omega
     | false =>
       have hs2 : ra = rb := by rw [hstep]; simp
       clear hstep
       go_wp2
       go_roundw
       case rel =>
        refine ⟨k + 1, by omega, by go_num, ?_, HBx.out, HDx.out⟩
        rw [HRB.out, ← hs2]
        exact HXR.out
       case measure => simp [intOf]; omega
   · obtain rfl : n = k := by omega
     rw [show bs.take n = bs by rw [List.take_of_length_le (by rw [← HN.out]; exact Nat.le_refl _)]] at HXw
     obtain ⟨rm, hrm⟩ : ∃ x, roomOf bs = x := ⟨_, rfl⟩
     rw [hrm] at HXw
     have HRM := Lib.hid hrm
     clear hrm
     obtain ⟨⟨l0, l1, l2, l3, l4, l5, l6⟩, z0, z1, z2, z3, z4, z5, z6⟩ := cells_seven HWw.out.row
     have hfr2 := row_keep HFR.out (HB0.out.trans (HBw.out.mono (by omega)))
     go_wp2_with fail
     refine (deleteI_front gf fn fc n fr _ HWw.out.isq.free (by have := HFN.out; omega)).mono ?_
     rintro e w4 ⟨m2, rfl, hF4, ht⟩
     have hW5 := HWw.out.cutF ht hfr2 hF4
     have hg4 := ht.wk HWw.out hfr2 tIW
     have hx4 := ht.row gx _ HXw.out (fun e => by have := HLO.out; have := HGF.out; omega)
     have h44 := ht.row w.heap.size _ HR4w.out (fun e => by have := HGF.out; omega)
     have hd4 := ht.owns HDw.out (fun e => by have h := (HDw.out.lt gf e).1; have := HGF.out; omega)
     have HSP := Lib.hid (((Spare.of_below (T := dirtyQ) (HB0.out.trans (HBw.out.mono (by omega))) HBB.out).trans (Spare.turn ht hfr2 rfl (by have h := HWw.out.isq.free.lt gf rfl; exact h.1))).trans (Spare.set (i := 2) (u := .slice (some ⟨gf, 0, none⟩) m2 fc) hg4 rfl HWw.out.lo))
     have HX5 := Lib.hid (one_other hx4 ⟨g, 2, none⟩ (.slice (some ⟨gf, 0, none⟩) m2 fc) (blocks_ne hx4 hg4 (fun e => tChW e.symm)))
     have H45 := Lib.hid (one_other h44 ⟨g, 2, none⟩ (.slice (some ⟨gf, 0, none⟩) m2 fc) (blocks_ne h44 hg4 (fun e => tChW e.symm)))
     have HD5 := Lib.hid (OwnI.stay hd4 hg4 twI 2 (.slice (some ⟨gf, 0, none⟩) m2 fc))
     have HW5 := Lib.hid hW5
     obtain ⟨⟨j0, j1, j2, j3, j4, j5, j6⟩, o0, o1, o2, o3, o4, o5, o6⟩ := cells_seven hg4
     have hlg4 := (Array.getElem?_eq_some_iff.1 hg4).1
     clear l0 l1 l2 l3 l4 l5 l6 z0 z1 z2 z3 z4 z5 z6 hfr2 hW5 hx4 h44 hd4 hF4 ht hg4
     go_wp2_with fail
     obtain ⟨w5, hw5⟩ : ∃ x, x = w4.setCell ⟨g, 2, none⟩ (.slice (some ⟨gf, 0, none⟩) m2 fc) := ⟨_, rfl⟩
     rw [← hw5] at HX5 H45 HD5 HW5 HSP ⊢
     have HBW5 := Lib.hid (Nat.le_trans HBB.out HSP.out.size)
     clear j0 j1 j2 j3 j4 j5 j6 o0 o1 o2 o3 o4 o5 o6 hlg4 hw5
     refine wp_region_rec (X := QueChainB) (by kernel_rfl) (by kernel_rfl) (fun x => #[x.b0, x.b1, x.b2, x.b3, x.b4, x.b5, x.b6, x.b7, x.b8, x.b9, x.b10, x.b11, x.b12]) (fun x => { tmps := List.toArray ((.pointer (some ⟨g, 0, none⟩)) :: (.slice (some ⟨gb, 0, none⟩) n bc) :: undef :: undef :: (.pointer (some ⟨w.heap.size, 0, none⟩)) :: (.pointer (some ⟨gx, 0, none⟩)) :: undef :: u7 :: s8 :: s9 :: s10 :: s11 :: s12 :: s13 :: s14 :: s15 :: s16 :: s17 :: s18 :: s19 :: s20 :: s21 :: s22 :: s23 :: s24 :: (.slice (some ⟨gb, 0, none⟩) n bc) :: (.int .i64 (n : Nat)) :: (.int .i64 (n : Nat)) :: (.bool false) :: u29 :: u30 :: u31 :: u32 :: u33 :: u34 :: u35 :: u36 :: u37 :: u38 :: u39 :: (.pointer (some ⟨g, 0, none⟩)) :: (.pointer (some ⟨g, 0, none⟩)) :: (.pointer (some ⟨g, 0, none⟩)) :: (.pointer (some ⟨g, 0, none⟩)) :: (.pointer (some ⟨g, 2, none⟩)) :: (.slice (some ⟨gf, 0, none⟩) fn fc) :: (.slice (some ⟨gb, 0, none⟩) n bc) :: (.int .i64 (n : Nat)) :: (.slice (some ⟨gf, 0, none⟩) m2 fc) :: (.pointer (some ⟨g, 0, none⟩)) :: (.pointer (some ⟨g, 0, none⟩)) :: (.pointer (some ⟨g, 2, none⟩)) :: x.s52 :: x.s53 :: x.s54 :: x.s55 :: x.s56 :: x.s57 :: x.s58 :: x.s59 :: x.s60 :: x.s61 :: x.s62 :: x.s63 :: undef :: []), defers := [] }) (fun x W => (x.b0 = true → x.s52 = .pointer (some ⟨g, 0, none⟩)) ∧ (x.b1 = true → x.s53 = .pointer (some ⟨g, 0, none⟩)) ∧ (x.b2 = true → x.s54 = .pointer (some ⟨g, 0, none⟩)) ∧ (x.b3 = true → x.s55 = .pointer (some ⟨g, 0, none⟩)) ∧ (x.b4 = true → x.s56 = .pointer (some ⟨g, 5, none⟩)) ∧ (x.b5 = true → x.s57 = .slice ca cn cc) ∧ (x.b6 = true → x.s58 = .agg #[.int .i64 hd, .slice da n dc, .int .i64 rm]) ∧ (x.b9 = true → x.s61 = .pointer (some ⟨g, 0, none⟩)) ∧ (x.b10 = true → x.s62 = .pointer (some ⟨g, 0, none⟩)) ∧ (x.b11 = true → x.s63 = .pointer (some ⟨g, 5, none⟩)) ∧ (x.b8 = true → x.b5 = true ∧ x.b6 = true ∧ x.b7 = true) ∧ (x.b12 = true → x.b7 = true ∧ x.b8 = true) ∧ (x.b7 = true → x.b6 = true) ∧ (x.b8 = false → Below w5.heap.size w5 W) ∧ (x.b8 = false → x.b7 = true → ∃ gs, x.s59 = .slice (some ⟨gs, 0, none⟩) 1 1 ∧ W.heap[gs]? = some (.cells #[.int .i64 hd, .slice da n dc, .int .i64 rm] 76 (0, 0))) ∧ (x.b12 = false → x.b8 = true → ∃ ca2 cc2 Wp, x.s60 = .slice ca2 (ch.length + 1) cc2 ∧ Below w5.heap.size w5 Wp ∧ Grew B Wp W (.slice ca cn cc) (.slice ca2 (ch.length + 1) cc2) 76 3 (ch.length + 1) (chCells ch D ++ [.int .i64 hd, .slice da n dc, .int .i64 rm])) ∧ (x.b12 = true → ∃ ca2 cc2 Wp w6, W = w6.setCell ⟨g, 5, none⟩ (.slice ca2 (ch.length + 1) cc2) ∧ Below w5.heap.size w5 Wp ∧ Grew B Wp w6 (.slice ca cn cc) (.slice ca2 (ch.length + 1) cc2) 76 3 (ch.length + 1) (chCells ch D ++ [.int .i64 hd, .slice da n dc, .int .i64 rm]))) ⟨false, false, false, false, false, false, false, false, false, false, false, false, false, undef, undef, undef, undef, undef, undef, undef, undef, undef, undef, undef, undef⟩ rfl rfl ⟨(fun h => by cases h), (fun h => by cases h), (fun h => by cases h), (fun h => by cases h), (fun h => by cases h), (fun h => by cases h), (fun h => by cases h), (fun h => by cases h), (fun h => by cases h), (fun h => by cases h), (fun h => by cases h), (fun h => by cases h), (fun h => by cases h), (fun _ => (Below.refl _ _).drew), (fun _ h => by cases h), (fun _ h => by cases h), (fun h => by cases h)⟩ (fun _ => rfl) ?hstep ?hdone
     case hstep =>
      rintro ⟨b0, b1, b2, b3, b4, b5, b6, b7, b8, b9, b10, b11, b12, s52, s53, s54, s55, s56, s57, s58, s59, s60, s61, s62, s63⟩ W hI i hi
      dsimp only at hI hi ⊢
      have HI := Lib.hid hI
      clear hI
      rw [Region.ready, List.mem_filter, List.mem_range] at hi
      obtain ⟨hlt, hp⟩ := hi
      have hi7 : i = 0 ∨ i = 1 ∨ i = 2 ∨ i = 3 ∨ i = 4 ∨ i = 5 ∨ i = 6 ∨ i = 7 ∨ i = 8 ∨ i = 9 ∨ i = 10 ∨ i = 11 ∨ i = 12 := by simp at hlt; omega
      clear hlt
      rcases hi7 with rfl | rfl | rfl | rfl | rfl | rfl | rfl | rfl | rfl | rfl | rfl | rfl | rfl
      all_goals simp [Region.binds] at hp
      · have hn0 : b0 = false := by revert hp; cases b0 <;> simp
        clear hp
        subst hn0
        refine inv_op (o := ⟨some 52, _, _, _, _, _⟩) rfl (fun K' hK' => ?_)
        go_simp
        obtain ⟨h0, h1, h2, h3, h4, h5, h6, h9, h10, h11, gi8, gi12, gi7, gB, gS, gC, gF⟩ := HI.out
        exact hK'.out _ _ ⟨⟨true, b1, b2, b3, b4, b5, b6, b7, b8, b9, b10, b11, b12, _, s53, s54, s55, s56, s57, s58, s59, s60, s61, s62, s63⟩, rfl, rfl, (fun _ => rfl), h1, h2, h3, h4, h5, h6, h9, h10, h11, gi8, gi12, gi7, gB, gS, gC, gF⟩
      · have hn1 : b1 = false := by revert hp; cases b1 <;> simp
        clear hp
        subst hn1
        refine inv_op (o := ⟨some 53, _, _, _, _, _⟩) rfl (fun K' hK' => ?_)
        go_simp
        obtain ⟨h0, h1, h2, h3, h4, h5, h6, h9, h10, h11, gi8, gi12, gi7, gB, gS, gC, gF⟩ := HI.out
        exact hK'.out _ _ ⟨⟨b0, true, b2, b3, b4, b5, b6, b7, b8, b9, b10, b11, b12, s52, _, s54, s55, s56, s57, s58, s59, s60, s61, s62, s63⟩, rfl, rfl, h0, (fun _ => rfl), h2, h3, h4, h5, h6, h9, h10, h11, gi8, gi12, gi7, gB, gS, gC, gF⟩
      · have hn2 : b2 = false := by revert hp; cases b2 <;> simp
        have e1 : b1 = true := by revert hp; cases b1 <;> simp
        clear hp
        obtain rfl := (HI.out.2.1) e1
        subst hn2
        refine inv_op (o := ⟨some 54, _, _, _, _, _⟩) rfl (fun K' hK' => ?_)
        go_simp
        obtain ⟨h0, h1, h2, h3, h4, h5, h6, h9, h10, h11, gi8, gi12, gi7, gB, gS, gC, gF⟩ := HI.out
        exact hK'.out _ _ ⟨⟨b0, b1, true, b3, b4, b5, b6, b7, b8, b9, b10, b11, b12, s52, _, _, s55, s56, s57, s58, s59, s60, s61, s62, s63⟩, rfl, rfl, h0, h1, (fun _ => rfl), h3, h4, h5, h6, h9, h10, h11, gi8, gi12, gi7, gB, gS, gC, gF⟩
      · have hn3 : b3 = false := by revert hp; cases b3 <;> simp
        have e2 : b2 = true := by revert hp; cases b2 <;> simp
        clear hp
        obtain rfl := (HI.out.2.2.1) e2
        subst hn3
        refine inv_op (o := ⟨some 55, _, _, _, _, _⟩) rfl (fun K' hK' => ?_)
        go_simp
        obtain ⟨h0, h1, h2, h3, h4, h5, h6, h9, h10, h11, gi8, gi12, gi7, gB, gS, gC, gF⟩ := HI.out
        exact hK'.out _ _ ⟨⟨b0, b1, b2, true, b4, b5, b6, b7, b8, b9, b10, b11, b12, s52, s53, _, _, s56, s57, s58, s59, s60, s61, s62, s63⟩, rfl, rfl, h0, h1, h2, (fun _ => rfl), h4, h5, h6, h9, h10, h11, gi8, gi12, gi7, gB, gS, gC, gF⟩
      · have hn4 : b4 = false := by revert hp; cases b4 <;> simp
        have e3 : b3 = true := by revert hp; cases b3 <;> simp
        clear hp
        obtain rfl := (HI.out.2.2.2.1) e3
        subst hn4
        refine inv_op (o := ⟨some 56, _, _, _, _, _⟩) rfl (fun K' hK' => ?_)
        go_simp
        obtain ⟨h0, h1, h2, h3, h4, h5, h6, h9, h10, h11, gi8, gi12, gi7, gB, gS, gC, gF⟩ := HI.out
        exact hK'.out _ _ ⟨⟨b0, b1, b2, b3, true, b5, b6, b7, b8, b9, b10, b11, b12, s52, s53, s54, _, _, s57, s58, s59, s60, s61, s62, s63⟩, rfl, rfl, h0, h1, h2, h3, (fun _ => rfl), h5, h6, h9, h10, h11, gi8, gi12, gi7, gB, gS, gC, gF⟩
      · have hn5 : b5 = false := by revert hp; cases b5 <;> simp
        have e4 : b4 = true := by revert hp; cases b4 <;> simp
        clear hp
        obtain rfl := (HI.out.2.2.2.2.1) e4
        subst hn5
        refine inv_op (o := ⟨some 57, _, _, _, _, _⟩) rfl (fun K' hK' => ?_)
        have gi8 := HI.out.2.2.2.2.2.2.2.2.2.2.1
        have gB := HI.out.2.2.2.2.2.2.2.2.2.2.2.2.2.1
        have hbf8 : b8 = false := by cases b8 with | false => rfl | true => exact absurd ((gi8 rfl).1) (by decide)
        subst hbf8
        have hc5 := (at_cell (row_keep HW5.out.row (gB rfl)) 5 _ rfl).1
        go_simp
        obtain ⟨h0, h1, h2, h3, h4, h5, h6, h9, h10, h11, gi8, gi12, gi7, gB, gS, gC, gF⟩ := HI.out
        exact hK'.out _ _ ⟨⟨b0, b1, b2, b3, b4, true, b6, b7, false, b9, b10, b11, b12, s52, s53, s54, s55, _, _, s58, s59, s60, s61, s62, s63⟩, rfl, rfl, h0, h1, h2, h3, h4, (fun _ => rfl), h6, h9, h10, h11, (fun e => by cases e), gi12, gi7, gB, gS, gC, gF⟩
      · have hn6 : b6 = false := by revert hp; cases b6 <;> simp
        clear hp
        subst hn6
        refine inv_op (o := ⟨some 58, _, _, _, _, _⟩) rfl (fun K' hK' => ?_)
        have gi8 := HI.out.2.2.2.2.2.2.2.2.2.2.1
        have gi7 := HI.out.2.2.2.2.2.2.2.2.2.2.2.2.1
        have gB := HI.out.2.2.2.2.2.2.2.2.2.2.2.2.2.1
        have hbf8 : b8 = false := by cases b8 with | false => rfl | true => exact absurd ((gi8 rfl).2.1) (by decide)
        subst hbf8
        have hbf7 : b7 = false := by cases b7 with | false => rfl | true => exact absurd ((gi7 rfl)) (by decide)
        subst hbf7
        obtain ⟨⟨hc0, hc1, hc2⟩, _⟩ := cells_three (row_keep HX5.out (gB rfl))
        go_simp
        obtain ⟨h0, h1, h2, h3, h4, h5, h6, h9, h10, h11, gi8, gi12, gi7, gB, gS, gC, gF⟩ := HI.out
        exact hK'.out _ _ ⟨⟨b0, b1, b2, b3, b4, b5, true, false, false, b9, b10, b11, b12, s52, s53, s54, s55, s56, s57, _, s59, s60, s61, s62, s63⟩, rfl, rfl, h0, h1, h2, h3, h4, h5, (fun _ => rfl), h9, h10, h11, (fun e => by cases e), gi12, (fun e => by cases e), gB, gS, gC, gF⟩
      · have hn7 : b7 = false := by revert hp; cases b7 <;> simp
        have e6 : b6 = true := by revert hp; cases b6 <;> simp
        clear hp
        obtain rfl := (HI.out.2.2.2.2.2.2.1) e6
        subst hn7
        refine inv_op (o := ⟨some 59, _, _, _, _, _⟩) rfl (fun K' hK' => ?_)
        have gi8 := HI.out.2.2.2.2.2.2.2.2.2.2.1
        have gi12 := HI.out.2.2.2.2.2.2.2.2.2.2.2.1
        have hbf8 : b8 = false := by cases b8 with | false => rfl | true => exact absurd ((gi8 rfl).2.2) (by decide)
        subst hbf8
        have hbf12 : b12 = false := by cases b12 with | false => rfl | true => exact absurd ((gi12 rfl).1) (by decide)
        subst hbf12
        have bn : Below W.heap.size W (W.alloc (.cells #[.int .i64 hd, .slice da n dc, .int .i64 rm] 76)) := (Below.refl _ _).alloc (Nat.le_refl _) _
        have hn := heap_alloc_new W (.cells #[.int .i64 hd, .slice da n dc, .int .i64 rm] 76)
        go_simp
        obtain ⟨h0, h1, h2, h3, h4, h5, h6, h9, h10, h11, gi8, gi12, gi7, gB, gS, gC, gF⟩ := HI.out
        exact hK'.out _ _ ⟨⟨b0, b1, b2, b3, b4, b5, b6, true, false, b9, b10, b11, false, s52, s53, s54, s55, s56, s57, _, _, s60, s61, s62, s63⟩, rfl, rfl, h0, h1, h2, h3, h4, h5, h6, h9, h10, h11, (fun e => by cases e), (fun e => by cases e), (fun _ => e6), (fun e => (gB e).trans (bn.mono (gB e).size)), (fun _ _ => ⟨_, rfl, hn⟩), (fun _ e => by cases e), (fun e => by cases e)⟩
      · have hn8 : b8 = false := by revert hp; cases b8 <;> simp
        have e5 : b5 = true := by revert hp; cases b5 <;> simp
        have e7 : b7 = true := by revert hp; cases b7 <;> simp
        clear hp
        obtain rfl := (HI.out.2.2.2.2.2.1) e5
        subst hn8
        refine inv_op (o := ⟨some 60, _, _, _, _, _⟩) rfl (fun K' hK' => ?_)
        have gi12 := HI.out.2.2.2.2.2.2.2.2.2.2.2.1
        have gB := HI.out.2.2.2.2.2.2.2.2.2.2.2.2.2.1
        have gS := HI.out.2.2.2.2.2.2.2.2.2.2.2.2.2.2.1
        have hbf12 : b12 = false := by cases b12 with | false => rfl | true => exact absurd ((gi12 rfl).2) (by decide)
        subst hbf12
        obtain ⟨gs, rfl, hs⟩ := gS rfl e7
        obtain ⟨⟨hc0, hc1, hc2⟩, _⟩ := cells_three hs
        refine step_append_grew W rfl (.tmp 57) (.tmp 59) 28 rfl B 76 ic (.agg #[.int .i64 0, .slice none 0 0, .int .i64 0]) 3 40 Tryz.underlying28 hic hcz0 hcz1 hcz2 rfl (by decide) (by decide) _ _ _ rfl (HW5.out.isq.chains.below (gB rfl)).row ⟨gs, 0, none⟩ 1 1 [.int .i64 hd, .slice da n dc, .int .i64 rm] rfl rfl (three_news hc0 hc1 hc2) (three_one _ _ _ _ _) HCL.out (Nat.le_trans HBW5.out (gB rfl).size) ?_
        intro C2 w2 hgr
        obtain ⟨ca2, cc2, rfl, hq1, hq2⟩ := owns_slice hgr.own
        clear hq1 hq2
        have hgb := gB rfl
        obtain ⟨h0, h1, h2, h3, h4, h5, h6, h9, h10, h11, gi8, gi12, gi7, gB, gS, gC, gF⟩ := HI.out
        exact hK'.out _ _ ⟨⟨b0, b1, b2, b3, b4, b5, b6, b7, true, b9, b10, b11, false, s52, s53, s54, s55, s56, _, s58, _, _, s61, s62, s63⟩, rfl, rfl, h0, h1, h2, h3, h4, h5, h6, h9, h10, h11, (fun _ => ⟨e5, (gi7 e7), e7⟩), (fun e => by cases e), gi7, (fun e => by cases e), (fun e => by cases e), (fun _ _ => ⟨ca2, cc2, W, rfl, hgb, hgr⟩), (fun e => by cases e)⟩
      · have hn9 : b9 = false := by revert hp; cases b9 <;> simp
        have e0 : b0 = true := by revert hp; cases b0 <;> simp
        clear hp
        obtain rfl := (HI.out.1) e0
        subst hn9
        refine inv_op (o := ⟨some 61, _, _, _, _, _⟩) rfl (fun K' hK' => ?_)
        go_simp
        obtain ⟨h0, h1, h2, h3, h4, h5, h6, h9, h10, h11, gi8, gi12, gi7, gB, gS, gC, gF⟩ := HI.out
        exact hK'.out _ _ ⟨⟨b0, b1, b2, b3, b4, b5, b6, b7, b8, true, b10, b11, b12, _, s53, s54, s55, s56, s57, s58, s59, s60, _, s62, s63⟩, rfl, rfl, h0, h1, h2, h3, h4, h5, h6, (fun _ => rfl), h10, h11, gi8, gi12, gi7, gB, gS, gC, gF⟩
      · have hn10 : b10 = false := by revert hp; cases b10 <;> simp
        have e9 : b9 = true := by revert hp; cases b9 <;> simp
        clear hp
        obtain rfl := (HI.out.2.2.2.2.2.2.2.1) e9
        subst hn10
        refine inv_op (o := ⟨some 62, _, _, _, _, _⟩) rfl (fun K' hK' => ?_)
        go_simp
        obtain ⟨h0, h1, h2, h3, h4, h5, h6, h9, h10, h11, gi8, gi12, gi7, gB, gS, gC, gF⟩ := HI.out
        exact hK'.out _ _ ⟨⟨b0, b1, b2, b3, b4, b5, b6, b7, b8, b9, true, b11, b12, s52, s53, s54, s55, s56, s57, s58, s59, s60, _, _, s63⟩, rfl, rfl, h0, h1, h2, h3, h4, h5, h6, h9, (fun _ => rfl), h11, gi8, gi12, gi7, gB, gS, gC, gF⟩
      · have hn11 : b11 = false := by revert hp; cases b11 <;> simp
        have e10 : b10 = true := by revert hp; cases b10 <;> simp
        clear hp
        obtain rfl := (HI.out.2.2.2.2.2.2.2.2.1) e10
        subst hn11
        refine inv_op (o := ⟨some 63, _, _, _, _, _⟩) rfl (fun K' hK' => ?_)
        go_simp
        obtain ⟨h0, h1, h2, h3, h4, h5, h6, h9, h10, h11, gi8, gi12, gi7, gB, gS, gC, gF⟩ := HI.out
        exact hK'.out _ _ ⟨⟨b0, b1, b2, b3, b4, b5, b6, b7, b8, b9, b10, true, b12, s52, s53, s54, s55, s56, s57, s58, s59, s60, s61, _, _⟩, rfl, rfl, h0, h1, h2, h3, h4, h5, h6, h9, h10, (fun _ => rfl), gi8, gi12, gi7, gB, gS, gC, gF⟩
      · have hn12 : b12 = false := by revert hp; cases b12 <;> simp
        have e8 : b8 = true := by revert hp; cases b8 <;> simp
        have e11 : b11 = true := by revert hp; cases b11 <;> simp
        have e7 : b7 = true := by revert hp; cases b7 <;> simp
        clear hp
        obtain rfl := (HI.out.2.2.2.2.2.2.2.2.2.1) e11
        subst hn12
        refine inv_op (o := ⟨none, _, _, _, _, _⟩) rfl (fun K' hK' => ?_)
        have gC := HI.out.2.2.2.2.2.2.2.2.2.2.2.2.2.2.2.1
        obtain ⟨ca2, cc2, Wp, rfl, hbp, hgr⟩ := gC rfl e8
        obtain ⟨⟨hc0, hc1, hc2, hc3, hc4, hc5, hc6⟩, hz0, hz1, hz2, hz3, hz4, hz5, hz6⟩ := cells_seven (hgr.other (HW5.out.isq.chains.below hbp).row (row_keep HW5.out.row hbp) twC)
        have hlx := (Array.getElem?_eq_some_iff.1 (hgr.other (HW5.out.isq.chains.below hbp).row (row_keep HW5.out.row hbp) twC)).1
        go_simp
        obtain ⟨h0, h1, h2, h3, h4, h5, h6, h9, h10, h11, gi8, gi12, gi7, gB, gS, gC, gF⟩ := HI.out
        exact hK'.out _ _ ⟨⟨b0, b1, b2, b3, b4, b5, b6, b7, b8, b9, b10, b11, true, s52, s53, s54, s55, s56, s57, s58, s59, _, s61, s62, _⟩, rfl, rfl, h0, h1, h2, h3, h4, h5, h6, h9, h10, h11, gi8, (fun _ => ⟨e7, e8⟩), gi7, (fun e => absurd (e8.symm.trans e) (by decide)), (fun e => absurd (e8.symm.trans e) (by decide)), (fun e => by cases e), (fun _ => ⟨ca2, cc2, Wp, W, rfl, hbp, hgr⟩)⟩
     case hdone =>
      rintro ⟨b0, b1, b2, b3, b4, b5, b6, b7, b8, b9, b10, b11, b12, s52, s53, s54, s55, s56, s57, s58, s59, s60, s61, s62, s63⟩ W hI hall
      dsimp only at hI hall ⊢
      have HI := Lib.hid hI
      clear hI
      obtain rfl : b0 = true := hall 0 (by decide)
      obtain rfl : b1 = true := hall 1 (by decide)
      obtain rfl : b2 = true := hall 2 (by decide)
      obtain rfl : b3 = true := hall 3 (by decide)
      obtain rfl : b4 = true := hall 4 (by decide)
      obtain rfl : b5 = true := hall 5 (by decide)
      obtain rfl : b6 = true := hall 6 (by decide)
      obtain rfl : b7 = true := hall 7 (by decide)
      obtain rfl : b8 = true := hall 8 (by decide)
      obtain rfl : b9 = true := hall 9 (by decide)
      obtain rfl : b10 = true := hall 10 (by decide)
      obtain rfl : b11 = true := hall 11 (by decide)
      obtain rfl : b12 = true := hall 12 (by decide)
      have gF := HI.out.2.2.2.2.2.2.2.2.2.2.2.2.2.2.2.2
      clear HI hall
      obtain ⟨ca2, cc2, Wp, w6, rfl, hbp, hgr⟩ := gF rfl
      have hcb : ∀ p, (Value.slice ca cn cc).ownBlock = some p → p < w.heap.size := fun p hp => (HW.out.isq.chains.row.lt p hp).2
      have hcb2 : ∀ p, p ≤ w5.heap.size → w.heap.size ≤ p → p < w5.heap.size → (Value.slice ca2 (ch.length + 1) cc2).ownBlock ≠ some p := fun p _ h1 h2 e => by
       rcases hgr.blk p e with e | e
       · have := hcb p e; omega
       · have := hbp.size; omega
      have hW6 := WorkB.push (c := ⟨hd, fr.take n, rm⟩) (HW5.out.below hbp) hgr ((HD5.out.below hbp).base (by have := HBB.out; omega)) (fun p hp e => by
       have h1 := (HD5.out.lt p hp).1
       have h2 : gf = p := by simpa [Value.ownBlock] using e
       have := HGF.out
       omega)
      have hwr := hgr.other (HW5.out.isq.chains.below hbp).row (row_keep HW5.out.row hbp) twC
      have hgxb := (Array.getElem?_eq_some_iff.1 HX5.out).1
      have hrb4 := (Array.getElem?_eq_some_iff.1 H45.out).1
      have hx6 := hgr.row gx _ (row_keep HX5.out hbp) (fun e => by have := hcb gx e; have := HLO.out; omega)
      have h46 := hgr.row w.heap.size _ (row_keep H45.out hbp) (fun e => by have := hcb _ e; omega)
      have hd6 := owns_keep (HD5.out.below hbp) fun k' c' _ hk' => hgr.other (HW5.out.isq.chains.below hbp).row hk' tIC
      have hsp6 := ((HSP.out.trans (Spare.of_below hbp HBW5.out _)).trans (Spare.grew (T := dirtyQ) hgr (HW5.out.isq.chains.below hbp).row rfl)).trans (Spare.set (i := 5) (u := .slice ca2 (ch.length + 1) cc2) hwr rfl HW5.out.lo)
      have HX7 := Lib.hid (one_other hx6 ⟨g, 5, none⟩ (.slice ca2 (ch.length + 1) cc2) (blocks_ne hx6 hwr (fun e => tChW e.symm)))
      have H47 := Lib.hid (one_other h46 ⟨g, 5, none⟩ (.slice ca2 (ch.length + 1) cc2) (blocks_ne h46 hwr (fun e => tChW e.symm)))
      have HD7 := Lib.hid (OwnI.stay hd6 hwr twI 5 (.slice ca2 (ch.length + 1) cc2))
      have HSP7 := Lib.hid hsp6
      have HW7 := Lib.hid hW6
      have HCN7 := Lib.hid (hcb2 w.heap.size (Nat.le_of_lt hrb4) (Nat.le_refl _) hrb4)
      obtain ⟨w7, hw7⟩ : ∃ x, x = w6.setCell ⟨g, 5, none⟩ (.slice ca2 (ch.length + 1) cc2) := ⟨_, rfl⟩
      rw [← hw7] at HX7 H47 HD7 HSP7 HW7 ⊢
      clear gF hbp hgr hcb hcb2 hW6 hwr hgxb hrb4 hx6 h46 hd6 hsp6 hw7
      obtain ⟨⟨x0, x1, x2⟩, _⟩ := cells_three HX7.out
      obtain ⟨⟨r0, r1, r2⟩, z0, z1, z2⟩ := cells_three H47.out
      have hl4 := (Array.getElem?_eq_some_iff.1 H47.out).1
      go_wp2
      have HR7 := HRM.out
      refine bodyPost_ret (v := .agg #[.int .i64 hd, .slice da n dc, .int .i64 rm]) (by simp [results, Tryz.results26, go_sem, r0, r1, r2]) rfl ⟨.slice (some ⟨gf, 0, none⟩) m2 fc, .slice ca2 (ch.length + 1) cc2, .slice da n dc, by rw [HR7], ?_, ?_, ?_⟩
      · rw [HR7]
        exact ((HW7.out.awayC H47.out HCN7.out 0 _).awayC (row_put H47.out 0 _) HCN7.out 1 _).awayC (row_put (row_put H47.out 0 _) 1 _) HCN7.out 2 _
      · exact (((HD7.out.stay H47.out tCI 0 _).stay (row_put H47.out 0 _) tCI 1 _).stay (row_put (row_put H47.out 0 _) 1 _) tCI 2 _).base (by have := HBB.out; omega)
      · exact ((HSP7.out.trans (Spare.set H47.out rfl HBB.out 0 _)).trans (Spare.set (row_put H47.out 0 _) rfl HBB.out 1 _)).trans (Spare.set (row_put (row_put H47.out 0 _) 1 _) rfl HBB.out 2 _)
end Go.Proofs.YtnmekbbnglkmcaaGreat
namespace Go.Proofs.YtnmekbbnglkmcaaGreat
open Go.RowKit Go.Lib
def flagOf (t more : Bool) : Nat := (if t then 2 else 0) + (if more then 1 else 0)
def moreAt (bs : List QB) (k : Nat) : Bool := decide (k + 1 < bs.length)
def nextOf (ds : List Int) (bs : List QB) (k : Nat) : Nat := if k + 1 < bs.length then (ds.getD (k + 1) 0).toNat else 0
def layK (l : List UInt8) (B : Nat) (ds : List Int) (bs : List QB) : Nat → List UInt8
 | 0 => l
 | k + 1 => setD (layK l B ds bs k) (B + 16 * (ds.getD k 0).toNat) (bs.getD k (0, 0, false)).1.toNat (bs.getD k (0, 0, false)).2.1.toNat (flagOf (bs.getD k (0, 0, false)).2.2 (moreAt bs k)) (nextOf ds bs k)
theorem layK_length {l : List UInt8} {B N : Nat} {ds : List Int} {bs : List QB} (hok : RingOk l.length B N) (hd : ∀ d ∈ ds, 0 ≤ d ∧ d < (N : Int)) : ∀ k, k ≤ ds.length → (layK l B ds bs k).length = l.length
 | 0, _ => rfl
 | k + 1, hk => by
   have h1 := layK_length hok hd (bs := bs) k (by omega)
   have h2 := hd _ (List.getElem_mem (show k < ds.length by omega))
   have h3 : ds.getD k 0 = ds[k] := by simp [List.getD_eq_getElem?_getD, show k < ds.length by omega]
   have h4 := hok.lie
   rw [layK, setD_length _ _ _ _ (by rw [h1, h3]; omega), h1]
structure QueLay00 where
 b0 : Bool
 b1 : Bool
 b2 : Bool
 b3 : Bool
 b4 : Bool
 b5 : Bool
 b6 : Bool
 b7 : Bool
 b8 : Bool
 b9 : Bool
 b10 : Bool
 b11 : Bool
 b12 : Bool
 b13 : Bool
 b14 : Bool
 b15 : Bool
 b16 : Bool
 b17 : Bool
 b18 : Bool
 b19 : Bool
 b20 : Bool
 b21 : Bool
 b22 : Bool
 b23 : Bool
 b24 : Bool
 b25 : Bool
 b26 : Bool
 b27 : Bool
 s47 : Value
 s48 : Value
 s49 : Value
 s50 : Value
 s51 : Value
 s52 : Value
 s53 : Value
 s54 : Value
 s55 : Value
 s56 : Value
 s57 : Value
 s58 : Value
 s59 : Value
 s60 : Value
 s61 : Value
 s62 : Value
 s63 : Value
 s64 : Value
 s65 : Value
 s66 : Value
 s67 : Value
 s68 : Value
 s46 : Value
 s69 : Value
 s70 : Value
 s71 : Value
 s72 : Value
structure QueLay01 where
 b0 : Bool
 b1 : Bool
 b2 : Bool
 b3 : Bool
 b4 : Bool
 b5 : Bool
 b6 : Bool
 b7 : Bool
 b8 : Bool
 b9 : Bool
 b10 : Bool
 b11 : Bool
 b12 : Bool
 b13 : Bool
 b14 : Bool
 b15 : Bool
 b16 : Bool
 b17 : Bool
 b18 : Bool
 b19 : Bool
 b20 : Bool
 b21 : Bool
 b22 : Bool
 b23 : Bool
 b24 : Bool
 b25 : Bool
 b26 : Bool
 b27 : Bool
 s47 : Value
 s48 : Value
 s49 : Value
 s50 : Value
 s51 : Value
 s52 : Value
 s53 : Value
 s54 : Value
 s55 : Value
 s56 : Value
 s57 : Value
 s58 : Value
 s59 : Value
 s60 : Value
 s61 : Value
 s62 : Value
 s63 : Value
 s64 : Value
 s65 : Value
 s66 : Value
 s67 : Value
 s68 : Value
 s46 : Value
 s69 : Value
 s70 : Value
 s71 : Value
 s72 : Value
structure QueLay10 where
 b0 : Bool
 b1 : Bool
 b2 : Bool
 b3 : Bool
 b4 : Bool
 b5 : Bool
 b6 : Bool
 b7 : Bool
 b8 : Bool
 b9 : Bool
 b10 : Bool
 b11 : Bool
 b12 : Bool
 b13 : Bool
 b14 : Bool
 b15 : Bool
 b16 : Bool
 b17 : Bool
 b18 : Bool
 b19 : Bool
 b20 : Bool
 b21 : Bool
 b22 : Bool
 b23 : Bool
 b24 : Bool
 b25 : Bool
 b26 : Bool
 b27 : Bool
 s47 : Value
 s48 : Value
 s49 : Value
 s50 : Value
 s51 : Value
 s52 : Value
 s53 : Value
 s54 : Value
 s55 : Value
 s56 : Value
 s57 : Value
 s58 : Value
 s59 : Value
 s60 : Value
 s61 : Value
 s62 : Value
 s63 : Value
 s64 : Value
 s65 : Value
 s66 : Value
 s67 : Value
 s68 : Value
 s46 : Value
 s69 : Value
 s70 : Value
 s71 : Value
 s72 : Value
structure QueLay11 where
 b0 : Bool
 b1 : Bool
 b2 : Bool
 b3 : Bool
 b4 : Bool
 b5 : Bool
 b6 : Bool
 b7 : Bool
 b8 : Bool
 b9 : Bool
 b10 : Bool
 b11 : Bool
 b12 : Bool
 b13 : Bool
 b14 : Bool
 b15 : Bool
 b16 : Bool
 b17 : Bool
 b18 : Bool
 b19 : Bool
 b20 : Bool
 b21 : Bool
 b22 : Bool
 b23 : Bool
 b24 : Bool
 b25 : Bool
 b26 : Bool
 b27 : Bool
 s47 : Value
 s48 : Value
 s49 : Value
 s50 : Value
 s51 : Value
 s52 : Value
 s53 : Value
 s54 : Value
 s55 : Value
 s56 : Value
 s57 : Value
 s58 : Value
 s59 : Value
 s60 : Value
 s61 : Value
 s62 : Value
 s63 : Value
 s64 : Value
 s65 : Value
 s66 : Value
 s67 : Value
 s68 : Value
 s46 : Value
 s69 : Value
 s70 : Value
 s71 : Value
 s72 : Value
theorem Given.ownB {w W : World} {base : Nat} {v r : Value} {l G : List UInt8} (h : Given W base v l r G) (hv : OwnB 0 w v l) (hb : Below w.heap.size w W) : OwnB 0 W r G := by
 rcases h with ⟨rfl, rfl⟩ | h
 · exact hv.below hb
 · exact ownsRow_base (base' := 0) h (Nat.zero_le _)
set_option maxHeartbeats 8000000 in
set_option maxRecDepth 100000 in
theorem lay_any (B g bq N : Nat) (q : QQ) (F C M v Dv : Value) (D : List Value) (l : List UInt8) (hd0 rm : Int) (ds : List Int) (bs : List QB) (w : World) (hw : WorkB B w g q F C M D l) (hbf : OwnBf 0 w v bs) (hdv : OwnI 0 w Dv ds) (hok : RingOk l.length bq N) (hbq : q.base = (bq : Nat)) (hz0 : q.size = (N : Nat)) (hn : bs.length = ds.length) (h1 : 1 ≤ bs.length) (hn16 : bs.length ≤ 16)
 (h3 : ∀ x ∈ bs, InB l.length x) (hds : ∀ d ∈ ds, 0 ≤ d ∧ d < (N : Int)) (hB : B ≤ w.heap.size) :
 Calls Tryz.prog 27 #[.pointer (some ⟨g, 0, none⟩), .agg #[.int .i64 hd0, Dv, .int .i64 rm], v] w fun e w' => ∃ M2, e = .returned (.tuple #[]) ∧ WorkB B w' g q F C M2 D (layK l bq ds bs bs.length) ∧ Spare w w' B dirtyW := by
 obtain ⟨fa, fn, fc, ca, cn, cc, rfl, rfl, hfn, hcn, k1, k2, k3, k4⟩ := hw.isq.shape
 obtain ⟨b, z, fr, av, la, ch⟩ := q
 simp only at *
 subst hbq
 subst hz0
 obtain ⟨va, vc, rfl, hv1, hv2⟩ := hw.mem.shape
 obtain ⟨L, hL⟩ : ∃ L, L = l.length := ⟨_, rfl⟩
 obtain ⟨ba, bc, rfl, hb1, hb2⟩ := hbf.shape
 obtain ⟨da, dc, rfl, hd1, hd2⟩ := hdv.shape
 obtain ⟨n, hnn⟩ : ∃ n, n = bs.length := ⟨_, rfl⟩
 obtain ⟨dn, hdn⟩ : ∃ n, n = ds.length := ⟨_, rfl⟩
 have HLK := Lib.hid (show ∀ k, k ≤ n → (layK l bq ds bs k).length = L from fun k hk => by rw [layK_length hok hds k (by omega), hL])
 rw [← hnn] at hn h1 hn16 hbf hb1 ⊢
 rw [← hdn] at hn hdv hd1 ⊢
 rw [← hL] at hw hok h3
 obtain ⟨gb, rfl, hgb⟩ := hbf.lie (by omega)
 obtain ⟨gd, dcur, rfl, p1, p2, p3, p4, p5, p6⟩ := hdv.lie (by intro e; rw [e] at hdn; simp at hdn; omega)
 have HW := Lib.hid hw
 have HBF := Lib.hid hbf
 have HDV := Lib.hid hdv
 have HOK := Lib.hid hok
 have HIN := Lib.hid h3
 have HDS := Lib.hid hds
 have HN := Lib.hid hnn
 have HDN := Lib.hid hdn
 have HBB := Lib.hid hB
 have HDN2 := Lib.hid (show n = dn from hn)
 have hbx : Below w.heap.size w (w.alloc (.cells #[.int .i64 hd0, .slice (some ⟨gd, 0, none⟩) dn dc, .int .i64 rm] 76)) := (Below.refl _ _).alloc (Nat.le_refl _) _
 have HBX := Lib.hid hbx
 have HR4 := Lib.hid (heap_alloc_new w (.cells #[.int .i64 hd0, .slice (some ⟨gd, 0, none⟩) dn dc, .int .i64 rm] 76))
 clear hw hbf hdv hok h3 hds hfn hcn k1 k2 k3 k4 hv1 hv2 hb1 hb2 hd1 hd2 hnn hdn p1 p2 p3 p4 p5 p6 hB hbx hn hL
 go_enter Tryz.func27, Tryz.ntmps27
 go_wp2
 go_loopw [11] (fun i wr => ∃ (k : Nat) (ma : Option Addr) (mc : Nat), k ≤ n ∧ i = .int .i64 k ∧ WorkB B wr g ⟨(bq : Nat), (N : Nat), fr, av, la, ch⟩ (.slice fa fn fc) (.slice ca cn cc) (.slice ma L mc) D (layK l bq ds bs k) ∧ wr.heap[w.heap.size]? = some (.cells #[.int .i64 hd0, .slice (some ⟨gd, 0, none⟩) dn dc, .int .i64 rm] 76 (0, 0)) ∧ Spare w wr B dirtyW) (fun i _ => n - (intOf i).toNat)
 case atStart => exact ⟨0, va, vc, Nat.zero_le _, rfl, HW.out.below HBX.out, HR4.out, Spare.of_below HBX.out HBB.out _⟩
 case round =>
  obtain ⟨k, ma, mc, hk, rfl, hW, hR, hS⟩ := hrel
  have HWw := Lib.hid hW
  have HRw := Lib.hid hR
  have HSw := Lib.hid hS
  have HBFw := Lib.hid (show OwnBf 0 wr (.slice (some ⟨gb, 0, none⟩) n bc) bs from hS.owns HBF.out rfl)
  have HDVw := Lib.hid (show OwnI 0 wr (.slice (some ⟨gd, 0, none⟩) dn dc) ds from hS.owns HDV.out rfl)
  clear hW hR hS
  by_cases hlt : k < n
  · obtain ⟨px, py, pt, hx, g0, g1, g2⟩ := HBFw.out.at k (by rw [← HN.out]; exact hlt)
    obtain ⟨i1, i2, i3⟩ := HIN.out _ (List.mem_of_getElem? hx)
    simp only at i1 i2 i3
    have hL8 := HOK.out.few
    obtain ⟨px, rfl⟩ := Int.eq_ofNat_of_zero_le i1
    obtain ⟨py, rfl⟩ := Int.eq_ofNat_of_zero_le (show 0 ≤ py by omega)
    have hgd : bs.getD k (0, 0, false) = (((px : Nat) : Int), ((py : Nat) : Int), pt) := by rw [List.getD_eq_getElem?_getD, hx]; rfl
    have hkd : k < ds.length := by rw [← HDN.out, ← HDN2.out]; omega
    have hdk := HDS.out _ (List.getElem_mem hkd)
    obtain ⟨dk, hdk1⟩ := Int.eq_ofNat_of_zero_le hdk.1
    have hdk2 : ds.getD k 0 = (dk : Nat) := by simp [List.getD_eq_getElem?_getD, hkd, hdk1]
    have hdkN : dk < N := by omega
    have HKD := Lib.hid hkd
    have HDK := Lib.hid hdk2
    obtain ⟨l2, hl2⟩ : ∃ x, layK l bq ds bs (k + 1) = x := ⟨_, rfl⟩
    have hl3 : l2 = setD (layK l bq ds bs k) (bq + 16 * dk) px py (flagOf pt (moreAt bs k)) (nextOf ds bs k) := by
     rw [← hl2, layK, hgd, hdk2]
     simp
    have HL2 := Lib.hid hl2
    have hl4 : l2.length = L := by rw [← hl2]; exact HLK.out (k + 1) (by omega)
    have hmem := HWw.out.mem
    have hlk := HLK.out k hk
    have hlen : 0 ≤ (k : Int) ∧ (k : Int) < (n : Int) := by omega
    obtain ⟨hl0, hl1⟩ := hlen
    have hkdn : k < dn ∧ ((k : Nat) : Int) < (dn : Nat) := by have := HDN2.out; omega
    obtain ⟨hkd1, hkd3⟩ := hkdn
    have hw1 : IntKind.u64.wrap ((px : Nat) : Int) = (px : Nat) := IntWalk.u64_in _ (by omega)
    have hw2 : IntKind.u32.wrap ((py : Nat) : Int) = (py : Nat) := IntWalk.u32_in _ (by omega)
    have HSDA := Lib.hid (show ∀ (f nx : Nat), flagOf pt (moreAt bs k) = f → nextOf ds bs k = nx → nx < 65536 → ∀ (Y : World), OwnB 0 Y (.slice ma L mc) (layK l bq ds bs k) → ∀ W, Below Y.heap.size Y W → Calls Tryz.prog 58 #[.agg #[.slice ma L mc], .int .i64 (bq : Nat), .int .i64 (N : Nat), .int .i64 (dk : Nat), .agg #[.int .u64 (px : Nat), .int .u32 (py : Nat), .int .u16 (f : Nat), .int .u16 (nx : Nat)]] W fun e w' => ∃ ra rc, e = .returned (.tuple #[.agg #[.slice ra L rc], .int .i64 0]) ∧ OwnB 0 w' (.slice ra L rc) l2 ∧ Below W.heap.size W w' from fun f nx hf hnx hnx2 Y hY W hb => by
     have hok2 : RingOk (layK l bq ds bs k).length bq N := by rw [hlk]; exact HOK.out
     have hm := hY.below hb
     have hf4 : f < 65536 := by rw [← hf]; unfold flagOf; split <;> split <;> omega
     refine (setDesc_any _ (layK l bq ds bs k) (bq : Nat) (N : Nat) (dk : Nat) px py f nx (by omega) hf4 hnx2 0 l2 (descF_ok hok2 hdkN) ((setX_ok hok2 hdkN px py f nx).trans (by rw [hl3, hf, hnx])) (by omega) W hm.arg).mono ?_
     rintro e w' ⟨ra, rc, rfl, hgv, hbw⟩
     rw [hlk] at hgv ⊢
     exact ⟨ra, rc, rfl, hgv.ownB hm hbw, hbw⟩)
    clear hx i1 i2 i3 hgd hdk hdk1 hdk2 hl2 hl3 hl4 hmem hlk hkd
    cases pt with
    | false =>
      by_cases hm : k + 1 < n
      · have hmore : moreAt bs k = true := by unfold moreAt; rw [← HN.out]; exact decide_eq_true hm
        have hk1 : k + 1 < ds.length := by rw [← HDN.out, ← HDN2.out]; omega
        have hdx := HDS.out _ (List.getElem_mem hk1)
        obtain ⟨nx, hnx1⟩ := Int.eq_ofNat_of_zero_le hdx.1
        have hnxl : nx < 65536 := by have := HOK.out.lie; omega
        have hnx2 : ds.getD (k + 1) 0 = (nx : Nat) := by simp [List.getD_eq_getElem?_getD, hk1, hnx1]
        have hnx : nextOf ds bs k = nx := by unfold nextOf; rw [← HN.out, if_pos hm, hnx2]; rfl
        have hw3 : IntKind.u16.wrap ((nx : Nat) : Int) = (nx : Nat) := IntWalk.u16_in _ (by omega)
        have hb3 : decide (((k : Nat) : Int) + 1 < ((n : Nat) : Int)) = true := decide_eq_true (by omega)
        have hcn1 := HDVw.out.at (k + 1) hk1
        rw [hnx2] at hcn1
        have hm2 : k + 1 < dn ∧ ((k : Nat) : Int) + 1 < (dn : Nat) := by have := HDN2.out; omega
        obtain ⟨hm2, hm3⟩ := hm2
        have hlw := (Array.getElem?_eq_some_iff.1 HRw.out).1
        have hlgd := (HDVw.out.lt gd rfl).2
        obtain ⟨⟨q0, q1, q2⟩, _⟩ := cells_three HRw.out
        clear hdx hnx1 hnx2 hk1
        obtain ⟨X, hX⟩ : ∃ X, X = (wr.alloc (.cells #[.int .i64 (px : Nat), .int .i64 (py : Nat), .bool false] 39)).alloc (.cells #[.int .u64 (px : Nat), .int .u32 (py : Nat), .int .u16 1, .int .u16 (nx : Nat)] 112) := ⟨_, rfl⟩
        have hbX : Below wr.heap.size wr X := by rw [hX]; exact ((Below.refl _ _).alloc (Nat.le_refl _) _).alloc (by simp) _
        have HX1 := Lib.hid (row_keep HWw.out.row hbX)
        have HX2 := Lib.hid (show X.heap[wr.heap.size + 1]? = some (.cells #[.int .u64 (px : Nat), .int .u32 (py : Nat), .int .u16 1, .int .u16 (nx : Nat)] 112 (0, 0)) from by rw [hX]; simpa using heap_alloc_new (wr.alloc (.cells #[.int .i64 (px : Nat), .int .i64 (py : Nat), .bool false] 39)) (.cells #[.int .u64 (px : Nat), .int .u32 (py : Nat), .int .u16 1, .int .u16 (nx : Nat)] 112))
        have HX3 := Lib.hid (row_keep HRw.out hbX)
        have HX4 := Lib.hid (HDVw.out.below hbX)
        have HBXw := Lib.hid hbX
        have HSD := Lib.hid (HSDA.out 1 nx (by rw [hmore]; rfl) hnx hnxl X (HWw.out.mem.below hbX))
        have HXE := Lib.hid hX
        clear hbX hX
        go_wp2_with fail
        rw [← HXE.out]
        refine wp_region_rec (X := QueLay01) (by kernel_rfl) (by kernel_rfl) (fun x => #[x.b0, x.b1, x.b2, x.b3, x.b4, x.b5, x.b6, x.b7, x.b8, x.b9, x.b10, x.b11, x.b12, x.b13, x.b14, x.b15, x.b16, x.b17, x.b18, x.b19, x.b20, x.b21, x.b22, x.b23, x.b24, x.b25, x.b26, x.b27]) (fun x => { tmps := List.toArray ((.pointer (some ⟨g, 0, none⟩)) :: (.agg #[.int .i64 hd0, .slice (some ⟨gd, 0, none⟩) dn dc, .int .i64 rm]) :: (.slice (some ⟨gb, 0, none⟩) n bc) :: undef :: (.pointer (some ⟨w.heap.size, 0, none⟩)) :: undef :: (.int .i64 (k : Nat)) :: (.pointer (some ⟨wr.heap.size, 0, none⟩)) :: (.pointer (some ⟨wr.heap.size + 1, 0, none⟩)) :: (.slice (some ⟨gb, 0, none⟩) n bc) :: (.int .i64 (n : Nat)) :: (.int .i64 (k : Nat)) :: (.bool true) :: (.int .i64 (k : Nat)) :: (.pointer (some ⟨gb, k * 3, none⟩)) :: (.agg #[.int .i64 (px : Nat), .int .i64 (py : Nat), .bool false]) :: (.pointer (some ⟨wr.heap.size, 0, none⟩)) :: (.int .i64 (px : Nat)) :: (.int .u64 (px : Nat)) :: (.pointer (some ⟨wr.heap.size, 1, none⟩)) :: (.int .i64 (py : Nat)) :: (.int .u32 (py : Nat)) :: (.agg #[.int .u64 (px : Nat), .int .u32 (py : Nat), .int .u16 0, .int .u16 0]) :: (.pointer (some ⟨wr.heap.size, 2, none⟩)) :: (.bool false) :: u25 :: u26 :: u27 :: u28 :: (.int .i64 (k : Nat)) :: (.int .i64 ((k : Nat) + 1)) :: (.slice (some ⟨gb, 0, none⟩) n bc) :: (.int .i64 (n : Nat)) :: (.bool true) :: (.pointer (some ⟨wr.heap.size + 1, 2, none⟩)) :: (.int .u16 0) :: (.int .u16 1) :: (.pointer (some ⟨wr.heap.size + 1, 2, none⟩)) :: (.pointer (some ⟨w.heap.size, 1, none⟩)) :: (.slice (some ⟨gd, 0, none⟩) dn dc) :: (.int .i64 (k : Nat)) :: (.int .i64 ((k : Nat) + 1)) :: (.pointer (some ⟨gd, k + 1, none⟩)) :: (.int .i64 (nx : Nat)) :: (.int .u16 (nx : Nat)) :: (.pointer (some ⟨wr.heap.size + 1, 3, none⟩)) :: x.s46 :: x.s47 :: x.s48 :: x.s49 :: x.s50 :: x.s51 :: x.s52 :: x.s53 :: x.s54 :: x.s55 :: x.s56 :: x.s57 :: x.s58 :: x.s59 :: x.s60 :: x.s61 :: x.s62 :: x.s63 :: x.s64 :: x.s65 :: x.s66 :: x.s67 :: x.s68 :: x.s69 :: x.s70 :: x.s71 :: x.s72 :: u73 :: []), defers := [] }) (fun x W => (x.b0 = true → x.s47 = .pointer (some ⟨g, 0, none⟩)) ∧ (x.b1 = true → x.s48 = .pointer (some ⟨g, 0, none⟩)) ∧ (x.b2 = true → x.s49 = .pointer (some ⟨g, 0, none⟩)) ∧ (x.b3 = true → x.s50 = .pointer (some ⟨g, 6, none⟩)) ∧ (x.b4 = true → x.s51 = .agg #[.slice ma L mc]) ∧ (x.b5 = true → x.s52 = .pointer (some ⟨g, 0, none⟩)) ∧ (x.b6 = true → x.s53 = .pointer (some ⟨g, 0, none⟩)) ∧ (x.b7 = true → x.s54 = .pointer (some ⟨g, 0, none⟩)) ∧ (x.b8 = true → x.s55 = .pointer (some ⟨g, 0, none⟩)) ∧ (x.b9 = true → x.s56 = .int .i64 (bq : Nat)) ∧ (x.b10 = true → x.s57 = .pointer (some ⟨g, 0, none⟩)) ∧ (x.b11 = true → x.s58 = .pointer (some ⟨g, 0, none⟩)) ∧ (x.b12 = true → x.s59 = .pointer (some ⟨g, 0, none⟩)) ∧ (x.b13 = true → x.s60 = .pointer (some ⟨g, 1, none⟩)) ∧ (x.b14 = true → x.s61 = .int .i64 (N : Nat)) ∧ (x.b15 = true → x.s62 = .pointer (some ⟨w.heap.size, 1, none⟩)) ∧ (x.b16 = true → x.s63 = .slice (some ⟨gd, 0, none⟩) dn dc) ∧ (x.b17 = true → x.s64 = .int .i64 (k : Nat)) ∧ (x.b18 = true → x.s65 = .pointer (some ⟨gd, k, none⟩)) ∧ (x.b19 = true → x.s66 = .int .i64 (dk : Nat)) ∧ (x.b20 = true → x.s67 = .agg #[.int .u64 (px : Nat), .int .u32 (py : Nat), .int .u16 1, .int .u16 (nx : Nat)]) ∧ (x.b22 = true → x.s46 = x.s68) ∧ (x.b24 = true → x.s70 = .int .i64 0) ∧ (x.b25 = true → x.s71 = .pointer (some ⟨g, 0, none⟩)) ∧ (x.b26 = true → x.s72 = .pointer (some ⟨g, 6, none⟩)) ∧ (x.b22 = true → x.b21 = true) ∧ (x.b27 = true → x.b4 = true ∧ x.b9 = true ∧ x.b14 = true ∧ x.b16 = true ∧ x.b19 = true ∧ x.b20 = true ∧ x.b21 = true) ∧ (x.b23 = true → x.b21 = true) ∧ (x.b27 = false → W.heap[g]? = some (.cells #[.int .i64 (bq : Nat), .int .i64 (N : Nat), .slice fa fn fc, .int .u16 (av : Nat), .int .u16 (la : Nat), .slice ca cn cc, .slice ma L mc] 74 (0, 0))) ∧ (x.b27 = false → W.heap[wr.heap.size + 1]? = some (.cells #[.int .u64 (px : Nat), .int .u32 (py : Nat), .int .u16 1, .int .u16 (nx : Nat)] 112 (0, 0))) ∧ (x.b27 = false → W.heap[w.heap.size]? = some (.cells #[.int .i64 hd0, .slice (some ⟨gd, 0, none⟩) dn dc, .int .i64 rm] 76 (0, 0))) ∧ (x.b27 = false → Below X.heap.size X W) ∧ (x.b21 = true → ∃ ra rc, x.s68 = .tuple #[.agg #[.slice ra L rc], .int .i64 0] ∧ OwnB 0 W (.slice ra L rc) l2) ∧ (x.b23 = true → ∃ ra rc, x.s69 = .agg #[.slice ra L rc] ∧ OwnB 0 W (.slice ra L rc) l2) ∧ (x.b27 = true → ∃ ra rc w6, W = w6.setCell ⟨g, 6, none⟩ (.slice ra L rc) ∧ Below X.heap.size X w6 ∧ OwnB 0 w6 (.slice ra L rc) l2)) ⟨false, false, false, false, false, false, false, false, false, false, false, false, false, false, false, false, false, false, false, false, false, false, false, false, false, false, false, false, u47, u48, u49, u50, u51, u52, u53, u54, u55, u56, u57, u58, u59, u60, u61, u62, u63, u64, u65, u66, u67, u68, u46, u69, u70, u71, u72⟩ rfl rfl ⟨(fun h => by cases h), (fun h => by cases h), (fun h => by cases h), (fun h => by cases h), (fun h => by cases h), (fun h => by cases h), (fun h => by cases h), (fun h => by cases h), (fun h => by cases h), (fun h => by cases h), (fun h => by cases h), (fun h => by cases h), (fun h => by cases h), (fun h => by cases h), (fun h => by cases h), (fun h => by cases h), (fun h => by cases h), (fun h => by cases h), (fun h => by cases h), (fun h => by cases h), (fun h => by cases h), (fun h => by cases h), (fun h => by cases h), (fun h => by cases h), (fun h => by cases h), (fun h => by cases h), (fun h => by cases h), (fun h => by cases h), (fun _ => HX1.out), (fun _ => HX2.out), (fun _ => HX3.out), (fun _ => (Below.refl _ _).drew), (fun h => by cases h), (fun h => by cases h), (fun h => by cases h)⟩ (fun _ => rfl) ?hstep ?hdone
        case hstep =>
         rintro ⟨b0, b1, b2, b3, b4, b5, b6, b7, b8, b9, b10, b11, b12, b13, b14, b15, b16, b17, b18, b19, b20, b21, b22, b23, b24, b25, b26, b27, s47, s48, s49, s50, s51, s52, s53, s54, s55, s56, s57, s58, s59, s60, s61, s62, s63, s64, s65, s66, s67, s68, s46, s69, s70, s71, s72⟩ W hI i hi
         dsimp only at hI hi ⊢
         have HI := Lib.hid hI
         clear hI
         rw [Region.ready, List.mem_filter, List.mem_range] at hi
         obtain ⟨hlt, hp⟩ := hi
         have hi7 : i = 0 ∨ i = 1 ∨ i = 2 ∨ i = 3 ∨ i = 4 ∨ i = 5 ∨ i = 6 ∨ i = 7 ∨ i = 8 ∨ i = 9 ∨ i = 10 ∨ i = 11 ∨ i = 12 ∨ i = 13 ∨ i = 14 ∨ i = 15 ∨ i = 16 ∨ i = 17 ∨ i = 18 ∨ i = 19 ∨ i = 20 ∨ i = 21 ∨ i = 22 ∨ i = 23 ∨ i = 24 ∨ i = 25 ∨ i = 26 ∨ i = 27 := by simp at hlt; omega
         clear hlt
         rcases hi7 with rfl | rfl | rfl | rfl | rfl | rfl | rfl | rfl | rfl | rfl | rfl | rfl | rfl | rfl | rfl | rfl | rfl | rfl | rfl | rfl | rfl | rfl | rfl | rfl | rfl | rfl | rfl | rfl
         all_goals simp [Region.binds] at hp
         · have hn0 : b0 = false := by revert hp; cases b0 <;> simp
           clear hp
           subst hn0
           refine inv_op (o := ⟨some 47, _, _, _, _, _⟩) rfl (fun K' hK' => ?_)
           go_simp
           obtain ⟨h0, h1, h2, h3, h4, h5, h6, h7, h8, h9, h10, h11, h12, h13, h14, h15, h16, h17, h18, h19, h20, h22, h24, h25, h26, gi22, gi27, gi23, rW0, rD0, rC0, gB, gP, gX, gF⟩ := HI.out
           exact hK'.out _ _ ⟨⟨true, b1, b2, b3, b4, b5, b6, b7, b8, b9, b10, b11, b12, b13, b14, b15, b16, b17, b18, b19, b20, b21, b22, b23, b24, b25, b26, b27, _, s48, s49, s50, s51, s52, s53, s54, s55, s56, s57, s58, s59, s60, s61, s62, s63, s64, s65, s66, s67, s68, s46, s69, s70, s71, s72⟩, rfl, rfl, (fun _ => rfl), h1, h2, h3, h4, h5, h6, h7, h8, h9, h10, h11, h12, h13, h14, h15, h16, h17, h18, h19, h20, h22, h24, h25, h26, gi22, gi27, gi23, rW0, rD0, rC0, gB, gP, gX, gF⟩
         · have hn1 : b1 = false := by revert hp; cases b1 <;> simp
           clear hp
           subst hn1
           refine inv_op (o := ⟨some 48, _, _, _, _, _⟩) rfl (fun K' hK' => ?_)
           go_simp
           obtain ⟨h0, h1, h2, h3, h4, h5, h6, h7, h8, h9, h10, h11, h12, h13, h14, h15, h16, h17, h18, h19, h20, h22, h24, h25, h26, gi22, gi27, gi23, rW0, rD0, rC0, gB, gP, gX, gF⟩ := HI.out
           exact hK'.out _ _ ⟨⟨b0, true, b2, b3, b4, b5, b6, b7, b8, b9, b10, b11, b12, b13, b14, b15, b16, b17, b18, b19, b20, b21, b22, b23, b24, b25, b26, b27, s47, _, s49, s50, s51, s52, s53, s54, s55, s56, s57, s58, s59, s60, s61, s62, s63, s64, s65, s66, s67, s68, s46, s69, s70, s71, s72⟩, rfl, rfl, h0, (fun _ => rfl), h2, h3, h4, h5, h6, h7, h8, h9, h10, h11, h12, h13, h14, h15, h16, h17, h18, h19, h20, h22, h24, h25, h26, gi22, gi27, gi23, rW0, rD0, rC0, gB, gP, gX, gF⟩
         · have hn2 : b2 = false := by revert hp; cases b2 <;> simp
           have e1 : b1 = true := by revert hp; cases b1 <;> simp
           clear hp
           obtain rfl := (HI.out.2.1) e1
           subst hn2
           refine inv_op (o := ⟨some 49, _, _, _, _, _⟩) rfl (fun K' hK' => ?_)
           go_simp
           obtain ⟨h0, h1, h2, h3, h4, h5, h6, h7, h8, h9, h10, h11, h12, h13, h14, h15, h16, h17, h18, h19, h20, h22, h24, h25, h26, gi22, gi27, gi23, rW0, rD0, rC0, gB, gP, gX, gF⟩ := HI.out
           exact hK'.out _ _ ⟨⟨b0, b1, true, b3, b4, b5, b6, b7, b8, b9, b10, b11, b12, b13, b14, b15, b16, b17, b18, b19, b20, b21, b22, b23, b24, b25, b26, b27, s47, _, _, s50, s51, s52, s53, s54, s55, s56, s57, s58, s59, s60, s61, s62, s63, s64, s65, s66, s67, s68, s46, s69, s70, s71, s72⟩, rfl, rfl, h0, h1, (fun _ => rfl), h3, h4, h5, h6, h7, h8, h9, h10, h11, h12, h13, h14, h15, h16, h17, h18, h19, h20, h22, h24, h25, h26, gi22, gi27, gi23, rW0, rD0, rC0, gB, gP, gX, gF⟩
         · have hn3 : b3 = false := by revert hp; cases b3 <;> simp
           have e2 : b2 = true := by revert hp; cases b2 <;> simp
           clear hp
           obtain rfl := (HI.out.2.2.1) e2
           subst hn3
           refine inv_op (o := ⟨some 50, _, _, _, _, _⟩) rfl (fun K' hK' => ?_)
           go_simp
           obtain ⟨h0, h1, h2, h3, h4, h5, h6, h7, h8, h9, h10, h11, h12, h13, h14, h15, h16, h17, h18, h19, h20, h22, h24, h25, h26, gi22, gi27, gi23, rW0, rD0, rC0, gB, gP, gX, gF⟩ := HI.out
           exact hK'.out _ _ ⟨⟨b0, b1, b2, true, b4, b5, b6, b7, b8, b9, b10, b11, b12, b13, b14, b15, b16, b17, b18, b19, b20, b21, b22, b23, b24, b25, b26, b27, s47, s48, _, _, s51, s52, s53, s54, s55, s56, s57, s58, s59, s60, s61, s62, s63, s64, s65, s66, s67, s68, s46, s69, s70, s71, s72⟩, rfl, rfl, h0, h1, h2, (fun _ => rfl), h4, h5, h6, h7, h8, h9, h10, h11, h12, h13, h14, h15, h16, h17, h18, h19, h20, h22, h24, h25, h26, gi22, gi27, gi23, rW0, rD0, rC0, gB, gP, gX, gF⟩
         · have hn4 : b4 = false := by revert hp; cases b4 <;> simp
           have e3 : b3 = true := by revert hp; cases b3 <;> simp
           clear hp
           obtain rfl := (HI.out.2.2.2.1) e3
           subst hn4
           refine inv_op (o := ⟨some 51, _, _, _, _, _⟩) rfl (fun K' hK' => ?_)
           have gi27 := HI.out.2.2.2.2.2.2.2.2.2.2.2.2.2.2.2.2.2.2.2.2.2.2.2.2.2.2.1
           have rW0 := HI.out.2.2.2.2.2.2.2.2.2.2.2.2.2.2.2.2.2.2.2.2.2.2.2.2.2.2.2.2.1
           have hbf27 : b27 = false := by cases b27 with | false => rfl | true => exact absurd ((gi27 rfl).1) (by decide)
           subst hbf27
           obtain ⟨hc6, _⟩ := at_cell (rW0 rfl) 6 _ rfl
           go_simp
           obtain ⟨h0, h1, h2, h3, h4, h5, h6, h7, h8, h9, h10, h11, h12, h13, h14, h15, h16, h17, h18, h19, h20, h22, h24, h25, h26, gi22, gi27, gi23, rW0, rD0, rC0, gB, gP, gX, gF⟩ := HI.out
           exact hK'.out _ _ ⟨⟨b0, b1, b2, b3, true, b5, b6, b7, b8, b9, b10, b11, b12, b13, b14, b15, b16, b17, b18, b19, b20, b21, b22, b23, b24, b25, b26, false, s47, s48, s49, _, _, s52, s53, s54, s55, s56, s57, s58, s59, s60, s61, s62, s63, s64, s65, s66, s67, s68, s46, s69, s70, s71, s72⟩, rfl, rfl, h0, h1, h2, h3, (fun _ => rfl), h5, h6, h7, h8, h9, h10, h11, h12, h13, h14, h15, h16, h17, h18, h19, h20, h22, h24, h25, h26, gi22, (fun e => by cases e), gi23, rW0, rD0, rC0, gB, gP, gX, (fun e => by cases e)⟩
         · have hn5 : b5 = false := by revert hp; cases b5 <;> simp
           clear hp
           subst hn5
           refine inv_op (o := ⟨some 52, _, _, _, _, _⟩) rfl (fun K' hK' => ?_)
           go_simp
           obtain ⟨h0, h1, h2, h3, h4, h5, h6, h7, h8, h9, h10, h11, h12, h13, h14, h15, h16, h17, h18, h19, h20, h22, h24, h25, h26, gi22, gi27, gi23, rW0, rD0, rC0, gB, gP, gX, gF⟩ := HI.out
           exact hK'.out _ _ ⟨⟨b0, b1, b2, b3, b4, true, b6, b7, b8, b9, b10, b11, b12, b13, b14, b15, b16, b17, b18, b19, b20, b21, b22, b23, b24, b25, b26, b27, s47, s48, s49, s50, s51, _, s53, s54, s55, s56, s57, s58, s59, s60, s61, s62, s63, s64, s65, s66, s67, s68, s46, s69, s70, s71, s72⟩, rfl, rfl, h0, h1, h2, h3, h4, (fun _ => rfl), h6, h7, h8, h9, h10, h11, h12, h13, h14, h15, h16, h17, h18, h19, h20, h22, h24, h25, h26, gi22, gi27, gi23, rW0, rD0, rC0, gB, gP, gX, gF⟩
         · have hn6 : b6 = false := by revert hp; cases b6 <;> simp
           have e5 : b5 = true := by revert hp; cases b5 <;> simp
           clear hp
           obtain rfl := (HI.out.2.2.2.2.2.1) e5
           subst hn6
           refine inv_op (o := ⟨some 53, _, _, _, _, _⟩) rfl (fun K' hK' => ?_)
           go_simp
           obtain ⟨h0, h1, h2, h3, h4, h5, h6, h7, h8, h9, h10, h11, h12, h13, h14, h15, h16, h17, h18, h19, h20, h22, h24, h25, h26, gi22, gi27, gi23, rW0, rD0, rC0, gB, gP, gX, gF⟩ := HI.out
           exact hK'.out _ _ ⟨⟨b0, b1, b2, b3, b4, b5, true, b7, b8, b9, b10, b11, b12, b13, b14, b15, b16, b17, b18, b19, b20, b21, b22, b23, b24, b25, b26, b27, s47, s48, s49, s50, s51, _, _, s54, s55, s56, s57, s58, s59, s60, s61, s62, s63, s64, s65, s66, s67, s68, s46, s69, s70, s71, s72⟩, rfl, rfl, h0, h1, h2, h3, h4, h5, (fun _ => rfl), h7, h8, h9, h10, h11, h12, h13, h14, h15, h16, h17, h18, h19, h20, h22, h24, h25, h26, gi22, gi27, gi23, rW0, rD0, rC0, gB, gP, gX, gF⟩
         · have hn7 : b7 = false := by revert hp; cases b7 <;> simp
           have e6 : b6 = true := by revert hp; cases b6 <;> simp
           clear hp
           obtain rfl := (HI.out.2.2.2.2.2.2.1) e6
           subst hn7
           refine inv_op (o := ⟨some 54, _, _, _, _, _⟩) rfl (fun K' hK' => ?_)
           go_simp
           obtain ⟨h0, h1, h2, h3, h4, h5, h6, h7, h8, h9, h10, h11, h12, h13, h14, h15, h16, h17, h18, h19, h20, h22, h24, h25, h26, gi22, gi27, gi23, rW0, rD0, rC0, gB, gP, gX, gF⟩ := HI.out
           exact hK'.out _ _ ⟨⟨b0, b1, b2, b3, b4, b5, b6, true, b8, b9, b10, b11, b12, b13, b14, b15, b16, b17, b18, b19, b20, b21, b22, b23, b24, b25, b26, b27, s47, s48, s49, s50, s51, s52, _, _, s55, s56, s57, s58, s59, s60, s61, s62, s63, s64, s65, s66, s67, s68, s46, s69, s70, s71, s72⟩, rfl, rfl, h0, h1, h2, h3, h4, h5, h6, (fun _ => rfl), h8, h9, h10, h11, h12, h13, h14, h15, h16, h17, h18, h19, h20, h22, h24, h25, h26, gi22, gi27, gi23, rW0, rD0, rC0, gB, gP, gX, gF⟩
         · have hn8 : b8 = false := by revert hp; cases b8 <;> simp
           have e7 : b7 = true := by revert hp; cases b7 <;> simp
           clear hp
           obtain rfl := (HI.out.2.2.2.2.2.2.2.1) e7
           subst hn8
           refine inv_op (o := ⟨some 55, _, _, _, _, _⟩) rfl (fun K' hK' => ?_)
           go_simp
           obtain ⟨h0, h1, h2, h3, h4, h5, h6, h7, h8, h9, h10, h11, h12, h13, h14, h15, h16, h17, h18, h19, h20, h22, h24, h25, h26, gi22, gi27, gi23, rW0, rD0, rC0, gB, gP, gX, gF⟩ := HI.out
           exact hK'.out _ _ ⟨⟨b0, b1, b2, b3, b4, b5, b6, b7, true, b9, b10, b11, b12, b13, b14, b15, b16, b17, b18, b19, b20, b21, b22, b23, b24, b25, b26, b27, s47, s48, s49, s50, s51, s52, s53, _, _, s56, s57, s58, s59, s60, s61, s62, s63, s64, s65, s66, s67, s68, s46, s69, s70, s71, s72⟩, rfl, rfl, h0, h1, h2, h3, h4, h5, h6, h7, (fun _ => rfl), h9, h10, h11, h12, h13, h14, h15, h16, h17, h18, h19, h20, h22, h24, h25, h26, gi22, gi27, gi23, rW0, rD0, rC0, gB, gP, gX, gF⟩
         · have hn9 : b9 = false := by revert hp; cases b9 <;> simp
           have e8 : b8 = true := by revert hp; cases b8 <;> simp
           clear hp
           obtain rfl := (HI.out.2.2.2.2.2.2.2.2.1) e8
           subst hn9
           refine inv_op (o := ⟨some 56, _, _, _, _, _⟩) rfl (fun K' hK' => ?_)
           have gi27 := HI.out.2.2.2.2.2.2.2.2.2.2.2.2.2.2.2.2.2.2.2.2.2.2.2.2.2.2.1
           have rW0 := HI.out.2.2.2.2.2.2.2.2.2.2.2.2.2.2.2.2.2.2.2.2.2.2.2.2.2.2.2.2.1
           have hbf27 : b27 = false := by cases b27 with | false => rfl | true => exact absurd ((gi27 rfl).2.1) (by decide)
           subst hbf27
           obtain ⟨hc0, _⟩ := at_cell (rW0 rfl) 0 _ rfl
           go_simp
           obtain ⟨h0, h1, h2, h3, h4, h5, h6, h7, h8, h9, h10, h11, h12, h13, h14, h15, h16, h17, h18, h19, h20, h22, h24, h25, h26, gi22, gi27, gi23, rW0, rD0, rC0, gB, gP, gX, gF⟩ := HI.out
           exact hK'.out _ _ ⟨⟨b0, b1, b2, b3, b4, b5, b6, b7, b8, true, b10, b11, b12, b13, b14, b15, b16, b17, b18, b19, b20, b21, b22, b23, b24, b25, b26, false, s47, s48, s49, s50, s51, s52, s53, s54, _, _, s57, s58, s59, s60, s61, s62, s63, s64, s65, s66, s67, s68, s46, s69, s70, s71, s72⟩, rfl, rfl, h0, h1, h2, h3, h4, h5, h6, h7, h8, (fun _ => rfl), h10, h11, h12, h13, h14, h15, h16, h17, h18, h19, h20, h22, h24, h25, h26, gi22, (fun e => by cases e), gi23, rW0, rD0, rC0, gB, gP, gX, (fun e => by cases e)⟩
         · have hn10 : b10 = false := by revert hp; cases b10 <;> simp
           clear hp
           subst hn10
           refine inv_op (o := ⟨some 57, _, _, _, _, _⟩) rfl (fun K' hK' => ?_)
           go_simp
           obtain ⟨h0, h1, h2, h3, h4, h5, h6, h7, h8, h9, h10, h11, h12, h13, h14, h15, h16, h17, h18, h19, h20, h22, h24, h25, h26, gi22, gi27, gi23, rW0, rD0, rC0, gB, gP, gX, gF⟩ := HI.out
           exact hK'.out _ _ ⟨⟨b0, b1, b2, b3, b4, b5, b6, b7, b8, b9, true, b11, b12, b13, b14, b15, b16, b17, b18, b19, b20, b21, b22, b23, b24, b25, b26, b27, s47, s48, s49, s50, s51, s52, s53, s54, s55, s56, _, s58, s59, s60, s61, s62, s63, s64, s65, s66, s67, s68, s46, s69, s70, s71, s72⟩, rfl, rfl, h0, h1, h2, h3, h4, h5, h6, h7, h8, h9, (fun _ => rfl), h11, h12, h13, h14, h15, h16, h17, h18, h19, h20, h22, h24, h25, h26, gi22, gi27, gi23, rW0, rD0, rC0, gB, gP, gX, gF⟩
         · have hn11 : b11 = false := by revert hp; cases b11 <;> simp
           have e10 : b10 = true := by revert hp; cases b10 <;> simp
           clear hp
           obtain rfl := (HI.out.2.2.2.2.2.2.2.2.2.2.1) e10
           subst hn11
           refine inv_op (o := ⟨some 58, _, _, _, _, _⟩) rfl (fun K' hK' => ?_)
           go_simp
           obtain ⟨h0, h1, h2, h3, h4, h5, h6, h7, h8, h9, h10, h11, h12, h13, h14, h15, h16, h17, h18, h19, h20, h22, h24, h25, h26, gi22, gi27, gi23, rW0, rD0, rC0, gB, gP, gX, gF⟩ := HI.out
           exact hK'.out _ _ ⟨⟨b0, b1, b2, b3, b4, b5, b6, b7, b8, b9, b10, true, b12, b13, b14, b15, b16, b17, b18, b19, b20, b21, b22, b23, b24, b25, b26, b27, s47, s48, s49, s50, s51, s52, s53, s54, s55, s56, _, _, s59, s60, s61, s62, s63, s64, s65, s66, s67, s68, s46, s69, s70, s71, s72⟩, rfl, rfl, h0, h1, h2, h3, h4, h5, h6, h7, h8, h9, h10, (fun _ => rfl), h12, h13, h14, h15, h16, h17, h18, h19, h20, h22, h24, h25, h26, gi22, gi27, gi23, rW0, rD0, rC0, gB, gP, gX, gF⟩
         · have hn12 : b12 = false := by revert hp; cases b12 <;> simp
           have e11 : b11 = true := by revert hp; cases b11 <;> simp
           clear hp
           obtain rfl := (HI.out.2.2.2.2.2.2.2.2.2.2.2.1) e11
           subst hn12
           refine inv_op (o := ⟨some 59, _, _, _, _, _⟩) rfl (fun K' hK' => ?_)
           go_simp
           obtain ⟨h0, h1, h2, h3, h4, h5, h6, h7, h8, h9, h10, h11, h12, h13, h14, h15, h16, h17, h18, h19, h20, h22, h24, h25, h26, gi22, gi27, gi23, rW0, rD0, rC0, gB, gP, gX, gF⟩ := HI.out
           exact hK'.out _ _ ⟨⟨b0, b1, b2, b3, b4, b5, b6, b7, b8, b9, b10, b11, true, b13, b14, b15, b16, b17, b18, b19, b20, b21, b22, b23, b24, b25, b26, b27, s47, s48, s49, s50, s51, s52, s53, s54, s55, s56, s57, _, _, s60, s61, s62, s63, s64, s65, s66, s67, s68, s46, s69, s70, s71, s72⟩, rfl, rfl, h0, h1, h2, h3, h4, h5, h6, h7, h8, h9, h10, h11, (fun _ => rfl), h13, h14, h15, h16, h17, h18, h19, h20, h22, h24, h25, h26, gi22, gi27, gi23, rW0, rD0, rC0, gB, gP, gX, gF⟩
         · have hn13 : b13 = false := by revert hp; cases b13 <;> simp
           have e12 : b12 = true := by revert hp; cases b12 <;> simp
           clear hp
           obtain rfl := (HI.out.2.2.2.2.2.2.2.2.2.2.2.2.1) e12
           subst hn13
           refine inv_op (o := ⟨some 60, _, _, _, _, _⟩) rfl (fun K' hK' => ?_)
           go_simp
           obtain ⟨h0, h1, h2, h3, h4, h5, h6, h7, h8, h9, h10, h11, h12, h13, h14, h15, h16, h17, h18, h19, h20, h22, h24, h25, h26, gi22, gi27, gi23, rW0, rD0, rC0, gB, gP, gX, gF⟩ := HI.out
           exact hK'.out _ _ ⟨⟨b0, b1, b2, b3, b4, b5, b6, b7, b8, b9, b10, b11, b12, true, b14, b15, b16, b17, b18, b19, b20, b21, b22, b23, b24, b25, b26, b27, s47, s48, s49, s50, s51, s52, s53, s54, s55, s56, s57, s58, _, _, s61, s62, s63, s64, s65, s66, s67, s68, s46, s69, s70, s71, s72⟩, rfl, rfl, h0, h1, h2, h3, h4, h5, h6, h7, h8, h9, h10, h11, h12, (fun _ => rfl), h14, h15, h16, h17, h18, h19, h20, h22, h24, h25, h26, gi22, gi27, gi23, rW0, rD0, rC0, gB, gP, gX, gF⟩
         · have hn14 : b14 = false := by revert hp; cases b14 <;> simp
           have e13 : b13 = true := by revert hp; cases b13 <;> simp
           clear hp
           obtain rfl := (HI.out.2.2.2.2.2.2.2.2.2.2.2.2.2.1) e13
           subst hn14
           refine inv_op (o := ⟨some 61, _, _, _, _, _⟩) rfl (fun K' hK' => ?_)
           have gi27 := HI.out.2.2.2.2.2.2.2.2.2.2.2.2.2.2.2.2.2.2.2.2.2.2.2.2.2.2.1
           have rW0 := HI.out.2.2.2.2.2.2.2.2.2.2.2.2.2.2.2.2.2.2.2.2.2.2.2.2.2.2.2.2.1
           have hbf27 : b27 = false := by cases b27 with | false => rfl | true => exact absurd ((gi27 rfl).2.2.1) (by decide)
           subst hbf27
           obtain ⟨hc1, _⟩ := at_cell (rW0 rfl) 1 _ rfl
           go_simp
           obtain ⟨h0, h1, h2, h3, h4, h5, h6, h7, h8, h9, h10, h11, h12, h13, h14, h15, h16, h17, h18, h19, h20, h22, h24, h25, h26, gi22, gi27, gi23, rW0, rD0, rC0, gB, gP, gX, gF⟩ := HI.out
           exact hK'.out _ _ ⟨⟨b0, b1, b2, b3, b4, b5, b6, b7, b8, b9, b10, b11, b12, b13, true, b15, b16, b17, b18, b19, b20, b21, b22, b23, b24, b25, b26, false, s47, s48, s49, s50, s51, s52, s53, s54, s55, s56, s57, s58, s59, _, _, s62, s63, s64, s65, s66, s67, s68, s46, s69, s70, s71, s72⟩, rfl, rfl, h0, h1, h2, h3, h4, h5, h6, h7, h8, h9, h10, h11, h12, h13, (fun _ => rfl), h15, h16, h17, h18, h19, h20, h22, h24, h25, h26, gi22, (fun e => by cases e), gi23, rW0, rD0, rC0, gB, gP, gX, (fun e => by cases e)⟩
         · have hn15 : b15 = false := by revert hp; cases b15 <;> simp
           clear hp
           subst hn15
           refine inv_op (o := ⟨some 62, _, _, _, _, _⟩) rfl (fun K' hK' => ?_)
           go_simp
           obtain ⟨h0, h1, h2, h3, h4, h5, h6, h7, h8, h9, h10, h11, h12, h13, h14, h15, h16, h17, h18, h19, h20, h22, h24, h25, h26, gi22, gi27, gi23, rW0, rD0, rC0, gB, gP, gX, gF⟩ := HI.out
           exact hK'.out _ _ ⟨⟨b0, b1, b2, b3, b4, b5, b6, b7, b8, b9, b10, b11, b12, b13, b14, true, b16, b17, b18, b19, b20, b21, b22, b23, b24, b25, b26, b27, s47, s48, s49, s50, s51, s52, s53, s54, s55, s56, s57, s58, s59, s60, s61, _, s63, s64, s65, s66, s67, s68, s46, s69, s70, s71, s72⟩, rfl, rfl, h0, h1, h2, h3, h4, h5, h6, h7, h8, h9, h10, h11, h12, h13, h14, (fun _ => rfl), h16, h17, h18, h19, h20, h22, h24, h25, h26, gi22, gi27, gi23, rW0, rD0, rC0, gB, gP, gX, gF⟩
         · have hn16 : b16 = false := by revert hp; cases b16 <;> simp
           have e15 : b15 = true := by revert hp; cases b15 <;> simp
           clear hp
           obtain rfl := (HI.out.2.2.2.2.2.2.2.2.2.2.2.2.2.2.2.1) e15
           subst hn16
           refine inv_op (o := ⟨some 63, _, _, _, _, _⟩) rfl (fun K' hK' => ?_)
           have gi27 := HI.out.2.2.2.2.2.2.2.2.2.2.2.2.2.2.2.2.2.2.2.2.2.2.2.2.2.2.1
           have rC0 := HI.out.2.2.2.2.2.2.2.2.2.2.2.2.2.2.2.2.2.2.2.2.2.2.2.2.2.2.2.2.2.2.1
           have hbf27 : b27 = false := by cases b27 with | false => rfl | true => exact absurd ((gi27 rfl).2.2.2.1) (by decide)
           subst hbf27
           obtain ⟨hc1, _⟩ := at_cell (rC0 rfl) 1 _ rfl
           go_simp
           obtain ⟨h0, h1, h2, h3, h4, h5, h6, h7, h8, h9, h10, h11, h12, h13, h14, h15, h16, h17, h18, h19, h20, h22, h24, h25, h26, gi22, gi27, gi23, rW0, rD0, rC0, gB, gP, gX, gF⟩ := HI.out
           exact hK'.out _ _ ⟨⟨b0, b1, b2, b3, b4, b5, b6, b7, b8, b9, b10, b11, b12, b13, b14, b15, true, b17, b18, b19, b20, b21, b22, b23, b24, b25, b26, false, s47, s48, s49, s50, s51, s52, s53, s54, s55, s56, s57, s58, s59, s60, s61, _, _, s64, s65, s66, s67, s68, s46, s69, s70, s71, s72⟩, rfl, rfl, h0, h1, h2, h3, h4, h5, h6, h7, h8, h9, h10, h11, h12, h13, h14, h15, (fun _ => rfl), h17, h18, h19, h20, h22, h24, h25, h26, gi22, (fun e => by cases e), gi23, rW0, rD0, rC0, gB, gP, gX, (fun e => by cases e)⟩
         · have hn17 : b17 = false := by revert hp; cases b17 <;> simp
           clear hp
           subst hn17
           refine inv_op (o := ⟨some 64, _, _, _, _, _⟩) rfl (fun K' hK' => ?_)
           go_simp
           obtain ⟨h0, h1, h2, h3, h4, h5, h6, h7, h8, h9, h10, h11, h12, h13, h14, h15, h16, h17, h18, h19, h20, h22, h24, h25, h26, gi22, gi27, gi23, rW0, rD0, rC0, gB, gP, gX, gF⟩ := HI.out
           exact hK'.out _ _ ⟨⟨b0, b1, b2, b3, b4, b5, b6, b7, b8, b9, b10, b11, b12, b13, b14, b15, b16, true, b18, b19, b20, b21, b22, b23, b24, b25, b26, b27, s47, s48, s49, s50, s51, s52, s53, s54, s55, s56, s57, s58, s59, s60, s61, s62, s63, _, s65, s66, s67, s68, s46, s69, s70, s71, s72⟩, rfl, rfl, h0, h1, h2, h3, h4, h5, h6, h7, h8, h9, h10, h11, h12, h13, h14, h15, h16, (fun _ => rfl), h18, h19, h20, h22, h24, h25, h26, gi22, gi27, gi23, rW0, rD0, rC0, gB, gP, gX, gF⟩
         · have hn18 : b18 = false := by revert hp; cases b18 <;> simp
           have e16 : b16 = true := by revert hp; cases b16 <;> simp
           have e17 : b17 = true := by revert hp; cases b17 <;> simp
           clear hp
           obtain rfl := (HI.out.2.2.2.2.2.2.2.2.2.2.2.2.2.2.2.2.1) e16
           obtain rfl := (HI.out.2.2.2.2.2.2.2.2.2.2.2.2.2.2.2.2.2.1) e17
           subst hn18
           refine inv_op (o := ⟨some 65, _, _, _, _, _⟩) rfl (fun K' hK' => ?_)
           go_simp
           obtain ⟨h0, h1, h2, h3, h4, h5, h6, h7, h8, h9, h10, h11, h12, h13, h14, h15, h16, h17, h18, h19, h20, h22, h24, h25, h26, gi22, gi27, gi23, rW0, rD0, rC0, gB, gP, gX, gF⟩ := HI.out
           exact hK'.out _ _ ⟨⟨b0, b1, b2, b3, b4, b5, b6, b7, b8, b9, b10, b11, b12, b13, b14, b15, b16, b17, true, b19, b20, b21, b22, b23, b24, b25, b26, b27, s47, s48, s49, s50, s51, s52, s53, s54, s55, s56, s57, s58, s59, s60, s61, s62, _, _, _, s66, s67, s68, s46, s69, s70, s71, s72⟩, rfl, rfl, h0, h1, h2, h3, h4, h5, h6, h7, h8, h9, h10, h11, h12, h13, h14, h15, h16, h17, (fun _ => rfl), h19, h20, h22, h24, h25, h26, gi22, gi27, gi23, rW0, rD0, rC0, gB, gP, gX, gF⟩
         · have hn19 : b19 = false := by revert hp; cases b19 <;> simp
           have e18 : b18 = true := by revert hp; cases b18 <;> simp
           clear hp
           obtain rfl := (HI.out.2.2.2.2.2.2.2.2.2.2.2.2.2.2.2.2.2.2.1) e18
           subst hn19
           refine inv_op (o := ⟨some 66, _, _, _, _, _⟩) rfl (fun K' hK' => ?_)
           have gi27 := HI.out.2.2.2.2.2.2.2.2.2.2.2.2.2.2.2.2.2.2.2.2.2.2.2.2.2.2.1
           have gB := HI.out.2.2.2.2.2.2.2.2.2.2.2.2.2.2.2.2.2.2.2.2.2.2.2.2.2.2.2.2.2.2.2.1
           have hbf27 : b27 = false := by cases b27 with | false => rfl | true => exact absurd ((gi27 rfl).2.2.2.2.1) (by decide)
           subst hbf27
           have hc7 := (HX4.out.below (gB rfl)).at k HKD.out
           rw [HDK.out] at hc7
           go_simp
           obtain ⟨h0, h1, h2, h3, h4, h5, h6, h7, h8, h9, h10, h11, h12, h13, h14, h15, h16, h17, h18, h19, h20, h22, h24, h25, h26, gi22, gi27, gi23, rW0, rD0, rC0, gB, gP, gX, gF⟩ := HI.out
           exact hK'.out _ _ ⟨⟨b0, b1, b2, b3, b4, b5, b6, b7, b8, b9, b10, b11, b12, b13, b14, b15, b16, b17, b18, true, b20, b21, b22, b23, b24, b25, b26, false, s47, s48, s49, s50, s51, s52, s53, s54, s55, s56, s57, s58, s59, s60, s61, s62, s63, s64, _, _, s67, s68, s46, s69, s70, s71, s72⟩, rfl, rfl, h0, h1, h2, h3, h4, h5, h6, h7, h8, h9, h10, h11, h12, h13, h14, h15, h16, h17, h18, (fun _ => rfl), h20, h22, h24, h25, h26, gi22, (fun e => by cases e), gi23, rW0, rD0, rC0, gB, gP, gX, (fun e => by cases e)⟩
         · have hn20 : b20 = false := by revert hp; cases b20 <;> simp
           clear hp
           subst hn20
           refine inv_op (o := ⟨some 67, _, _, _, _, _⟩) rfl (fun K' hK' => ?_)
           have gi27 := HI.out.2.2.2.2.2.2.2.2.2.2.2.2.2.2.2.2.2.2.2.2.2.2.2.2.2.2.1
           have rD0 := HI.out.2.2.2.2.2.2.2.2.2.2.2.2.2.2.2.2.2.2.2.2.2.2.2.2.2.2.2.2.2.1
           have hbf27 : b27 = false := by cases b27 with | false => rfl | true => exact absurd ((gi27 rfl).2.2.2.2.2.1) (by decide)
           subst hbf27
           obtain ⟨hc0, _⟩ := at_cell (rD0 rfl) 0 _ rfl
           obtain ⟨hc1, _⟩ := at_cell (rD0 rfl) 1 _ rfl
           obtain ⟨hc2, _⟩ := at_cell (rD0 rfl) 2 _ rfl
           obtain ⟨hc3, _⟩ := at_cell (rD0 rfl) 3 _ rfl
           go_simp
           obtain ⟨h0, h1, h2, h3, h4, h5, h6, h7, h8, h9, h10, h11, h12, h13, h14, h15, h16, h17, h18, h19, h20, h22, h24, h25, h26, gi22, gi27, gi23, rW0, rD0, rC0, gB, gP, gX, gF⟩ := HI.out
           exact hK'.out _ _ ⟨⟨b0, b1, b2, b3, b4, b5, b6, b7, b8, b9, b10, b11, b12, b13, b14, b15, b16, b17, b18, b19, true, b21, b22, b23, b24, b25, b26, false, s47, s48, s49, s50, s51, s52, s53, s54, s55, s56, s57, s58, s59, s60, s61, s62, s63, s64, s65, s66, _, s68, s46, s69, s70, s71, s72⟩, rfl, rfl, h0, h1, h2, h3, h4, h5, h6, h7, h8, h9, h10, h11, h12, h13, h14, h15, h16, h17, h18, h19, (fun _ => rfl), h22, h24, h25, h26, gi22, (fun e => by cases e), gi23, rW0, rD0, rC0, gB, gP, gX, (fun e => by cases e)⟩
         · have hn21 : b21 = false := by revert hp; cases b21 <;> simp
           have e4 : b4 = true := by revert hp; cases b4 <;> simp
           have e9 : b9 = true := by revert hp; cases b9 <;> simp
           have e14 : b14 = true := by revert hp; cases b14 <;> simp
           have e19 : b19 = true := by revert hp; cases b19 <;> simp
           have e20 : b20 = true := by revert hp; cases b20 <;> simp
           clear hp
           obtain rfl := (HI.out.2.2.2.2.1) e4
           obtain rfl := (HI.out.2.2.2.2.2.2.2.2.2.1) e9
           obtain rfl := (HI.out.2.2.2.2.2.2.2.2.2.2.2.2.2.2.1) e14
           obtain rfl := (HI.out.2.2.2.2.2.2.2.2.2.2.2.2.2.2.2.2.2.2.2.1) e19
           obtain rfl := (HI.out.2.2.2.2.2.2.2.2.2.2.2.2.2.2.2.2.2.2.2.2.1) e20
           subst hn21
           refine inv_op (o := ⟨some 68, _, _, _, _, _⟩) rfl (fun K' hK' => ?_)
           have gi22 := HI.out.2.2.2.2.2.2.2.2.2.2.2.2.2.2.2.2.2.2.2.2.2.2.2.2.2.1
           have gi27 := HI.out.2.2.2.2.2.2.2.2.2.2.2.2.2.2.2.2.2.2.2.2.2.2.2.2.2.2.1
           have gi23 := HI.out.2.2.2.2.2.2.2.2.2.2.2.2.2.2.2.2.2.2.2.2.2.2.2.2.2.2.2.1
           have gB := HI.out.2.2.2.2.2.2.2.2.2.2.2.2.2.2.2.2.2.2.2.2.2.2.2.2.2.2.2.2.2.2.2.1
           have hbf22 : b22 = false := by cases b22 with | false => rfl | true => exact absurd ((gi22 rfl)) (by decide)
           subst hbf22
           have hbf27 : b27 = false := by cases b27 with | false => rfl | true => exact absurd ((gi27 rfl).2.2.2.2.2.2) (by decide)
           subst hbf27
           have hbf23 : b23 = false := by cases b23 with | false => rfl | true => exact absurd ((gi23 rfl)) (by decide)
           subst hbf23
           go_simp
           refine (HSD.out W (gB rfl)).mono ?_
           rintro e w2 ⟨ra, rc, rfl, hr, bn⟩
           obtain ⟨h0, h1, h2, h3, h4, h5, h6, h7, h8, h9, h10, h11, h12, h13, h14, h15, h16, h17, h18, h19, h20, h22, h24, h25, h26, gi22, gi27, gi23, rW0, rD0, rC0, gB, gP, gX, gF⟩ := HI.out
           exact hK'.out _ _ ⟨⟨b0, b1, b2, b3, b4, b5, b6, b7, b8, b9, b10, b11, b12, b13, b14, b15, b16, b17, b18, b19, b20, true, false, false, b24, b25, b26, false, s47, s48, s49, s50, _, s52, s53, s54, s55, _, s57, s58, s59, s60, _, s62, s63, s64, s65, _, _, _, s46, s69, s70, s71, s72⟩, rfl, rfl, h0, h1, h2, h3, h4, h5, h6, h7, h8, h9, h10, h11, h12, h13, h14, h15, h16, h17, h18, h19, h20, (fun e => by cases ((gi22 e))), h24, h25, h26, (fun e => by cases e), (fun e => by cases e), (fun e => by cases e), (fun e => row_keep (rW0 e) bn), (fun e => row_keep (rD0 e) bn), (fun e => row_keep (rC0 e) bn), (fun e => (gB e).trans (bn.mono (gB e).size)), (fun _ => ⟨ra, rc, rfl, hr⟩), (fun e => by cases e), (fun e => by cases e)⟩
         · have hn22 : b22 = false := by revert hp; cases b22 <;> simp
           have e21 : b21 = true := by revert hp; cases b21 <;> simp
           clear hp
           subst hn22
           refine inv_op (o := ⟨some 46, _, _, _, _, _⟩) rfl (fun K' hK' => ?_)
           go_simp
           obtain ⟨h0, h1, h2, h3, h4, h5, h6, h7, h8, h9, h10, h11, h12, h13, h14, h15, h16, h17, h18, h19, h20, h22, h24, h25, h26, gi22, gi27, gi23, rW0, rD0, rC0, gB, gP, gX, gF⟩ := HI.out
           exact hK'.out _ _ ⟨⟨b0, b1, b2, b3, b4, b5, b6, b7, b8, b9, b10, b11, b12, b13, b14, b15, b16, b17, b18, b19, b20, b21, true, b23, b24, b25, b26, b27, s47, s48, s49, s50, s51, s52, s53, s54, s55, s56, s57, s58, s59, s60, s61, s62, s63, s64, s65, s66, s67, _, _, s69, s70, s71, s72⟩, rfl, rfl, h0, h1, h2, h3, h4, h5, h6, h7, h8, h9, h10, h11, h12, h13, h14, h15, h16, h17, h18, h19, h20, (fun _ => rfl), h24, h25, h26, (fun _ => e21), gi27, gi23, rW0, rD0, rC0, gB, gP, gX, gF⟩
         · have hn23 : b23 = false := by revert hp; cases b23 <;> simp
           have e22 : b22 = true := by revert hp; cases b22 <;> simp
           clear hp
           obtain rfl := (HI.out.2.2.2.2.2.2.2.2.2.2.2.2.2.2.2.2.2.2.2.2.2.1) e22
           subst hn23
           refine inv_op (o := ⟨some 69, _, _, _, _, _⟩) rfl (fun K' hK' => ?_)
           have gi22 := HI.out.2.2.2.2.2.2.2.2.2.2.2.2.2.2.2.2.2.2.2.2.2.2.2.2.2.1
           have gP := HI.out.2.2.2.2.2.2.2.2.2.2.2.2.2.2.2.2.2.2.2.2.2.2.2.2.2.2.2.2.2.2.2.2.1
           obtain ⟨ra, rc, rfl, hp⟩ := gP ((gi22 e22))
           go_simp
           obtain ⟨h0, h1, h2, h3, h4, h5, h6, h7, h8, h9, h10, h11, h12, h13, h14, h15, h16, h17, h18, h19, h20, h22, h24, h25, h26, gi22, gi27, gi23, rW0, rD0, rC0, gB, gP, gX, gF⟩ := HI.out
           exact hK'.out _ _ ⟨⟨b0, b1, b2, b3, b4, b5, b6, b7, b8, b9, b10, b11, b12, b13, b14, b15, b16, b17, b18, b19, b20, b21, b22, true, b24, b25, b26, b27, s47, s48, s49, s50, s51, s52, s53, s54, s55, s56, s57, s58, s59, s60, s61, s62, s63, s64, s65, s66, s67, _, _, _, s70, s71, s72⟩, rfl, rfl, h0, h1, h2, h3, h4, h5, h6, h7, h8, h9, h10, h11, h12, h13, h14, h15, h16, h17, h18, h19, h20, h22, h24, h25, h26, gi22, gi27, (fun _ => (gi22 e22)), rW0, rD0, rC0, gB, (fun _ => ⟨ra, rc, rfl, hp⟩), (fun _ => ⟨ra, rc, rfl, hp⟩), gF⟩
         · have hn24 : b24 = false := by revert hp; cases b24 <;> simp
           have e22 : b22 = true := by revert hp; cases b22 <;> simp
           clear hp
           obtain rfl := (HI.out.2.2.2.2.2.2.2.2.2.2.2.2.2.2.2.2.2.2.2.2.2.1) e22
           subst hn24
           refine inv_op (o := ⟨some 70, _, _, _, _, _⟩) rfl (fun K' hK' => ?_)
           have gi22 := HI.out.2.2.2.2.2.2.2.2.2.2.2.2.2.2.2.2.2.2.2.2.2.2.2.2.2.1
           have gP := HI.out.2.2.2.2.2.2.2.2.2.2.2.2.2.2.2.2.2.2.2.2.2.2.2.2.2.2.2.2.2.2.2.2.1
           obtain ⟨ra, rc, rfl, hp⟩ := gP ((gi22 e22))
           go_simp
           obtain ⟨h0, h1, h2, h3, h4, h5, h6, h7, h8, h9, h10, h11, h12, h13, h14, h15, h16, h17, h18, h19, h20, h22, h24, h25, h26, gi22, gi27, gi23, rW0, rD0, rC0, gB, gP, gX, gF⟩ := HI.out
           exact hK'.out _ _ ⟨⟨b0, b1, b2, b3, b4, b5, b6, b7, b8, b9, b10, b11, b12, b13, b14, b15, b16, b17, b18, b19, b20, b21, b22, b23, true, b25, b26, b27, s47, s48, s49, s50, s51, s52, s53, s54, s55, s56, s57, s58, s59, s60, s61, s62, s63, s64, s65, s66, s67, _, _, s69, _, s71, s72⟩, rfl, rfl, h0, h1, h2, h3, h4, h5, h6, h7, h8, h9, h10, h11, h12, h13, h14, h15, h16, h17, h18, h19, h20, h22, (fun _ => rfl), h25, h26, gi22, gi27, gi23, rW0, rD0, rC0, gB, (fun _ => ⟨ra, rc, rfl, hp⟩), gX, gF⟩
         · have hn25 : b25 = false := by revert hp; cases b25 <;> simp
           have e0 : b0 = true := by revert hp; cases b0 <;> simp
           clear hp
           obtain rfl := (HI.out.1) e0
           subst hn25
           refine inv_op (o := ⟨some 71, _, _, _, _, _⟩) rfl (fun K' hK' => ?_)
           go_simp
           obtain ⟨h0, h1, h2, h3, h4, h5, h6, h7, h8, h9, h10, h11, h12, h13, h14, h15, h16, h17, h18, h19, h20, h22, h24, h25, h26, gi22, gi27, gi23, rW0, rD0, rC0, gB, gP, gX, gF⟩ := HI.out
           exact hK'.out _ _ ⟨⟨b0, b1, b2, b3, b4, b5, b6, b7, b8, b9, b10, b11, b12, b13, b14, b15, b16, b17, b18, b19, b20, b21, b22, b23, b24, true, b26, b27, _, s48, s49, s50, s51, s52, s53, s54, s55, s56, s57, s58, s59, s60, s61, s62, s63, s64, s65, s66, s67, s68, s46, s69, s70, _, s72⟩, rfl, rfl, h0, h1, h2, h3, h4, h5, h6, h7, h8, h9, h10, h11, h12, h13, h14, h15, h16, h17, h18, h19, h20, h22, h24, (fun _ => rfl), h26, gi22, gi27, gi23, rW0, rD0, rC0, gB, gP, gX, gF⟩
         · have hn26 : b26 = false := by revert hp; cases b26 <;> simp
           have e25 : b25 = true := by revert hp; cases b25 <;> simp
           clear hp
           obtain rfl := (HI.out.2.2.2.2.2.2.2.2.2.2.2.2.2.2.2.2.2.2.2.2.2.2.2.1) e25
           subst hn26
           refine inv_op (o := ⟨some 72, _, _, _, _, _⟩) rfl (fun K' hK' => ?_)
           go_simp
           obtain ⟨h0, h1, h2, h3, h4, h5, h6, h7, h8, h9, h10, h11, h12, h13, h14, h15, h16, h17, h18, h19, h20, h22, h24, h25, h26, gi22, gi27, gi23, rW0, rD0, rC0, gB, gP, gX, gF⟩ := HI.out
           exact hK'.out _ _ ⟨⟨b0, b1, b2, b3, b4, b5, b6, b7, b8, b9, b10, b11, b12, b13, b14, b15, b16, b17, b18, b19, b20, b21, b22, b23, b24, b25, true, b27, s47, s48, s49, s50, s51, s52, s53, s54, s55, s56, s57, s58, s59, s60, s61, s62, s63, s64, s65, s66, s67, s68, s46, s69, s70, _, _⟩, rfl, rfl, h0, h1, h2, h3, h4, h5, h6, h7, h8, h9, h10, h11, h12, h13, h14, h15, h16, h17, h18, h19, h20, h22, h24, h25, (fun _ => rfl), gi22, gi27, gi23, rW0, rD0, rC0, gB, gP, gX, gF⟩
         · have hn27 : b27 = false := by revert hp; cases b27 <;> simp
           have e23 : b23 = true := by revert hp; cases b23 <;> simp
           have e26 : b26 = true := by revert hp; cases b26 <;> simp
           have e21 : b21 = true := by revert hp; cases b21 <;> simp
           have e4 : b4 = true := by revert hp; cases b4 <;> simp
           have e9 : b9 = true := by revert hp; cases b9 <;> simp
           have e14 : b14 = true := by revert hp; cases b14 <;> simp
           have e16 : b16 = true := by revert hp; cases b16 <;> simp
           have e19 : b19 = true := by revert hp; cases b19 <;> simp
           have e20 : b20 = true := by revert hp; cases b20 <;> simp
           clear hp
           obtain rfl := (HI.out.2.2.2.2.2.2.2.2.2.2.2.2.2.2.2.2.2.2.2.2.2.2.2.2.1) e26
           subst hn27
           refine inv_op (o := ⟨none, _, _, _, _, _⟩) rfl (fun K' hK' => ?_)
           have rW0 := HI.out.2.2.2.2.2.2.2.2.2.2.2.2.2.2.2.2.2.2.2.2.2.2.2.2.2.2.2.2.1
           have gB := HI.out.2.2.2.2.2.2.2.2.2.2.2.2.2.2.2.2.2.2.2.2.2.2.2.2.2.2.2.2.2.2.2.1
           have gX := HI.out.2.2.2.2.2.2.2.2.2.2.2.2.2.2.2.2.2.2.2.2.2.2.2.2.2.2.2.2.2.2.2.2.2.1
           obtain ⟨ra, rc, rfl, hx⟩ := gX e23
           have hrow := rW0 rfl
           have hgb := gB rfl
           obtain ⟨hc, hz⟩ := at_cell hrow 6 _ rfl
           have hlx := (Array.getElem?_eq_some_iff.1 hrow).1
           go_simp
           obtain ⟨h0, h1, h2, h3, h4, h5, h6, h7, h8, h9, h10, h11, h12, h13, h14, h15, h16, h17, h18, h19, h20, h22, h24, h25, h26, gi22, gi27, gi23, rW0, rD0, rC0, gB, gP, gX, gF⟩ := HI.out
           exact hK'.out _ _ ⟨⟨b0, b1, b2, b3, b4, b5, b6, b7, b8, b9, b10, b11, b12, b13, b14, b15, b16, b17, b18, b19, b20, b21, b22, b23, b24, b25, b26, true, s47, s48, s49, s50, s51, s52, s53, s54, s55, s56, s57, s58, s59, s60, s61, s62, s63, s64, s65, s66, s67, s68, s46, _, s70, s71, _⟩, rfl, rfl, h0, h1, h2, h3, h4, h5, h6, h7, h8, h9, h10, h11, h12, h13, h14, h15, h16, h17, h18, h19, h20, h22, h24, h25, h26, gi22, (fun _ => ⟨e4, e9, e14, e16, e19, e20, e21⟩), gi23, (fun e => by cases e), (fun e => by cases e), (fun e => by cases e), (fun e => by cases e), (fun e => by obtain ⟨y0, y1, h1, h2⟩ := gP e; exact ⟨y0, y1, h1, h2.stay hrow (by decide) 6 _⟩), (fun _ => ⟨ra, rc, rfl, hx.stay hrow (by decide) 6 _⟩), (fun _ => ⟨ra, rc, W, rfl, hgb, hx⟩)⟩
        case hdone =>
         rintro ⟨b0, b1, b2, b3, b4, b5, b6, b7, b8, b9, b10, b11, b12, b13, b14, b15, b16, b17, b18, b19, b20, b21, b22, b23, b24, b25, b26, b27, s47, s48, s49, s50, s51, s52, s53, s54, s55, s56, s57, s58, s59, s60, s61, s62, s63, s64, s65, s66, s67, s68, s46, s69, s70, s71, s72⟩ W hI hall
         dsimp only at hI hall ⊢
         have HI := Lib.hid hI
         clear hI
         obtain rfl : b0 = true := hall 0 (by decide)
         obtain rfl : b1 = true := hall 1 (by decide)
         obtain rfl : b2 = true := hall 2 (by decide)
         obtain rfl : b3 = true := hall 3 (by decide)
         obtain rfl : b4 = true := hall 4 (by decide)
         obtain rfl : b5 = true := hall 5 (by decide)
         obtain rfl : b6 = true := hall 6 (by decide)
         obtain rfl : b7 = true := hall 7 (by decide)
         obtain rfl : b8 = true := hall 8 (by decide)
         obtain rfl : b9 = true := hall 9 (by decide)
         obtain rfl : b10 = true := hall 10 (by decide)
         obtain rfl : b11 = true := hall 11 (by decide)
         obtain rfl : b12 = true := hall 12 (by decide)
         obtain rfl : b13 = true := hall 13 (by decide)
         obtain rfl : b14 = true := hall 14 (by decide)
         obtain rfl : b15 = true := hall 15 (by decide)
         obtain rfl : b16 = true := hall 16 (by decide)
         obtain rfl : b17 = true := hall 17 (by decide)
         obtain rfl : b18 = true := hall 18 (by decide)
         obtain rfl : b19 = true := hall 19 (by decide)
         obtain rfl : b20 = true := hall 20 (by decide)
         obtain rfl : b21 = true := hall 21 (by decide)
         obtain rfl : b22 = true := hall 22 (by decide)
         obtain rfl : b23 = true := hall 23 (by decide)
         obtain rfl : b24 = true := hall 24 (by decide)
         obtain rfl : b25 = true := hall 25 (by decide)
         obtain rfl : b26 = true := hall 26 (by decide)
         obtain rfl : b27 = true := hall 27 (by decide)
         have gF := HI.out.2.2.2.2.2.2.2.2.2.2.2.2.2.2.2.2.2.2.2.2.2.2.2.2.2.2.2.2.2.2.2.2.2.2
         clear HI hall
         obtain ⟨ra, rc, w6, rfl, hb6, ho6⟩ := gF rfl
         have hw6 := ((HWw.out.below HBXw.out).below hb6).setM ho6
         have hr6 := row_keep (row_keep HRw.out HBXw.out) hb6
         have hbb := HBXw.out.trans (hb6.mono HBXw.out.size)
         have HW6 := Lib.hid hw6
         have HR6 := Lib.hid (one_other hr6 ⟨g, 6, none⟩ (.slice ra L rc) (blocks_ne hr6 (row_keep HWw.out.row hbb) (fun e => tChW e.symm)))
         have HS6 := Lib.hid ((HSw.out.trans (Spare.of_below hbb (Nat.le_trans HBB.out HSw.out.size) _)).trans (Spare.set (i := 6) (u := .slice ra L rc) (row_keep HWw.out.row hbb) rfl HWw.out.lo))
         clear gF hb6 ho6 hw6 hr6 hbb
         go_wp2
         go_roundw
         case rel => exact ⟨k + 1, ra, rc, by omega, by go_num, by rw [HL2.out]; exact HW6.out, HR6.out, HS6.out⟩
         case measure => simp [intOf]; omega
      · have hmore : moreAt bs k = false := by unfold moreAt; rw [← HN.out]; exact decide_eq_false hm
        have hnx0 : nextOf ds bs k = 0 := by unfold nextOf; rw [← HN.out, if_neg hm]
        have hb3 : decide (((k : Nat) : Int) + 1 < ((n : Nat) : Int)) = false := decide_eq_false (by omega)
        obtain ⟨X, hX⟩ : ∃ X, X = (wr.alloc (.cells #[.int .i64 (px : Nat), .int .i64 (py : Nat), .bool false] 39)).alloc (.cells #[.int .u64 (px : Nat), .int .u32 (py : Nat), .int .u16 0, .int .u16 0] 112) := ⟨_, rfl⟩
        have hbX : Below wr.heap.size wr X := by rw [hX]; exact ((Below.refl _ _).alloc (Nat.le_refl _) _).alloc (by simp) _
        have HX1 := Lib.hid (row_keep HWw.out.row hbX)
        have HX2 := Lib.hid (show X.heap[wr.heap.size + 1]? = some (.cells #[.int .u64 (px : Nat), .int .u32 (py : Nat), .int .u16 0, .int .u16 0] 112 (0, 0)) from by rw [hX]; simpa using heap_alloc_new (wr.alloc (.cells #[.int .i64 (px : Nat), .int .i64 (py : Nat), .bool false] 39)) (.cells #[.int .u64 (px : Nat), .int .u32 (py : Nat), .int .u16 0, .int .u16 0] 112))
        have HX3 := Lib.hid (row_keep HRw.out hbX)
        have HX4 := Lib.hid (HDVw.out.below hbX)
        have HBXw := Lib.hid hbX
        have HSD := Lib.hid (HSDA.out 0 0 (by rw [hmore]; rfl) hnx0 (by decide) X (HWw.out.mem.below hbX))
        have HXE := Lib.hid hX
        clear hbX hX
        go_wp2_with fail
        rw [← HXE.out]
        refine wp_region_rec (X := QueLay00) (by kernel_rfl) (by kernel_rfl) (fun x => #[x.b0, x.b1, x.b2, x.b3, x.b4, x.b5, x.b6, x.b7, x.b8, x.b9, x.b10, x.b11, x.b12, x.b13, x.b14, x.b15, x.b16, x.b17, x.b18, x.b19, x.b20, x.b21, x.b22, x.b23, x.b24, x.b25, x.b26, x.b27]) (fun x => { tmps := List.toArray ((.pointer (some ⟨g, 0, none⟩)) :: (.agg #[.int .i64 hd0, .slice (some ⟨gd, 0, none⟩) dn dc, .int .i64 rm]) :: (.slice (some ⟨gb, 0, none⟩) n bc) :: undef :: (.pointer (some ⟨w.heap.size, 0, none⟩)) :: undef :: (.int .i64 (k : Nat)) :: (.pointer (some ⟨wr.heap.size, 0, none⟩)) :: (.pointer (some ⟨wr.heap.size + 1, 0, none⟩)) :: (.slice (some ⟨gb, 0, none⟩) n bc) :: (.int .i64 (n : Nat)) :: (.int .i64 (k : Nat)) :: (.bool true) :: (.int .i64 (k : Nat)) :: (.pointer (some ⟨gb, k * 3, none⟩)) :: (.agg #[.int .i64 (px : Nat), .int .i64 (py : Nat), .bool false]) :: (.pointer (some ⟨wr.heap.size, 0, none⟩)) :: (.int .i64 (px : Nat)) :: (.int .u64 (px : Nat)) :: (.pointer (some ⟨wr.heap.size, 1, none⟩)) :: (.int .i64 (py : Nat)) :: (.int .u32 (py : Nat)) :: (.agg #[.int .u64 (px : Nat), .int .u32 (py : Nat), .int .u16 0, .int .u16 0]) :: (.pointer (some ⟨wr.heap.size, 2, none⟩)) :: (.bool false) :: u25 :: u26 :: u27 :: u28 :: (.int .i64 (k : Nat)) :: (.int .i64 ((k : Nat) + 1)) :: (.slice (some ⟨gb, 0, none⟩) n bc) :: (.int .i64 (n : Nat)) :: (.bool false) :: u34 :: u35 :: u36 :: u37 :: u38 :: u39 :: u40 :: u41 :: u42 :: u43 :: u44 :: u45 :: x.s46 :: x.s47 :: x.s48 :: x.s49 :: x.s50 :: x.s51 :: x.s52 :: x.s53 :: x.s54 :: x.s55 :: x.s56 :: x.s57 :: x.s58 :: x.s59 :: x.s60 :: x.s61 :: x.s62 :: x.s63 :: x.s64 :: x.s65 :: x.s66 :: x.s67 :: x.s68 :: x.s69 :: x.s70 :: x.s71 :: x.s72 :: u73 :: []), defers := [] }) (fun x W => (x.b0 = true → x.s47 = .pointer (some ⟨g, 0, none⟩)) ∧ (x.b1 = true → x.s48 = .pointer (some ⟨g, 0, none⟩)) ∧ (x.b2 = true → x.s49 = .pointer (some ⟨g, 0, none⟩)) ∧ (x.b3 = true → x.s50 = .pointer (some ⟨g, 6, none⟩)) ∧ (x.b4 = true → x.s51 = .agg #[.slice ma L mc]) ∧ (x.b5 = true → x.s52 = .pointer (some ⟨g, 0, none⟩)) ∧ (x.b6 = true → x.s53 = .pointer (some ⟨g, 0, none⟩)) ∧ (x.b7 = true → x.s54 = .pointer (some ⟨g, 0, none⟩)) ∧ (x.b8 = true → x.s55 = .pointer (some ⟨g, 0, none⟩)) ∧ (x.b9 = true → x.s56 = .int .i64 (bq : Nat)) ∧ (x.b10 = true → x.s57 = .pointer (some ⟨g, 0, none⟩)) ∧ (x.b11 = true → x.s58 = .pointer (some ⟨g, 0, none⟩)) ∧ (x.b12 = true → x.s59 = .pointer (some ⟨g, 0, none⟩)) ∧ (x.b13 = true → x.s60 = .pointer (some ⟨g, 1, none⟩)) ∧ (x.b14 = true → x.s61 = .int .i64 (N : Nat)) ∧ (x.b15 = true → x.s62 = .pointer (some ⟨w.heap.size, 1, none⟩)) ∧ (x.b16 = true → x.s63 = .slice (some ⟨gd, 0, none⟩) dn dc) ∧ (x.b17 = true → x.s64 = .int .i64 (k : Nat)) ∧ (x.b18 = true → x.s65 = .pointer (some ⟨gd, k, none⟩)) ∧ (x.b19 = true → x.s66 = .int .i64 (dk : Nat)) ∧ (x.b20 = true → x.s67 = .agg #[.int .u64 (px : Nat), .int .u32 (py : Nat), .int .u16 0, .int .u16 0]) ∧ (x.b22 = true → x.s46 = x.s68) ∧ (x.b24 = true → x.s70 = .int .i64 0) ∧ (x.b25 = true → x.s71 = .pointer (some ⟨g, 0, none⟩)) ∧ (x.b26 = true → x.s72 = .pointer (some ⟨g, 6, none⟩)) ∧ (x.b22 = true → x.b21 = true) ∧ (x.b27 = true → x.b4 = true ∧ x.b9 = true ∧ x.b14 = true ∧ x.b16 = true ∧ x.b19 = true ∧ x.b20 = true ∧ x.b21 = true) ∧ (x.b23 = true → x.b21 = true) ∧ (x.b27 = false → W.heap[g]? = some (.cells #[.int .i64 (bq : Nat), .int .i64 (N : Nat), .slice fa fn fc, .int .u16 (av : Nat), .int .u16 (la : Nat), .slice ca cn cc, .slice ma L mc] 74 (0, 0))) ∧ (x.b27 = false → W.heap[wr.heap.size + 1]? = some (.cells #[.int .u64 (px : Nat), .int .u32 (py : Nat), .int .u16 0, .int .u16 0] 112 (0, 0))) ∧ (x.b27 = false → W.heap[w.heap.size]? = some (.cells #[.int .i64 hd0, .slice (some ⟨gd, 0, none⟩) dn dc, .int .i64 rm] 76 (0, 0))) ∧ (x.b27 = false → Below X.heap.size X W) ∧ (x.b21 = true → ∃ ra rc, x.s68 = .tuple #[.agg #[.slice ra L rc], .int .i64 0] ∧ OwnB 0 W (.slice ra L rc) l2) ∧ (x.b23 = true → ∃ ra rc, x.s69 = .agg #[.slice ra L rc] ∧ OwnB 0 W (.slice ra L rc) l2) ∧ (x.b27 = true → ∃ ra rc w6, W = w6.setCell ⟨g, 6, none⟩ (.slice ra L rc) ∧ Below X.heap.size X w6 ∧ OwnB 0 w6 (.slice ra L rc) l2)) ⟨false, false, false, false, false, false, false, false, false, false, false, false, false, false, false, false, false, false, false, false, false, false, false, false, false, false, false, false, u47, u48, u49, u50, u51, u52, u53, u54, u55, u56, u57, u58, u59, u60, u61, u62, u63, u64, u65, u66, u67, u68, u46, u69, u70, u71, u72⟩ rfl rfl ⟨(fun h => by cases h), (fun h => by cases h), (fun h => by cases h), (fun h => by cases h), (fun h => by cases h), (fun h => by cases h), (fun h => by cases h), (fun h => by cases h), (fun h => by cases h), (fun h => by cases h), (fun h => by cases h), (fun h => by cases h), (fun h => by cases h), (fun h => by cases h), (fun h => by cases h), (fun h => by cases h), (fun h => by cases h), (fun h => by cases h), (fun h => by cases h), (fun h => by cases h), (fun h => by cases h), (fun h => by cases h), (fun h => by cases h), (fun h => by cases h), (fun h => by cases h), (fun h => by cases h), (fun h => by cases h), (fun h => by cases h), (fun _ => HX1.out), (fun _ => HX2.out), (fun _ => HX3.out), (fun _ => (Below.refl _ _).drew), (fun h => by cases h), (fun h => by cases h), (fun h => by cases h)⟩ (fun _ => rfl) ?hstep ?hdone
        case hstep =>
         rintro ⟨b0, b1, b2, b3, b4, b5, b6, b7, b8, b9, b10, b11, b12, b13, b14, b15, b16, b17, b18, b19, b20, b21, b22, b23, b24, b25, b26, b27, s47, s48, s49, s50, s51, s52, s53, s54, s55, s56, s57, s58, s59, s60, s61, s62, s63, s64, s65, s66, s67, s68, s46, s69, s70, s71, s72⟩ W hI i hi
         dsimp only at hI hi ⊢
         have HI := Lib.hid hI
         clear hI
         rw [Region.ready, List.mem_filter, List.mem_range] at hi
         obtain ⟨hlt, hp⟩ := hi
         have hi7 : i = 0 ∨ i = 1 ∨ i = 2 ∨ i = 3 ∨ i = 4 ∨ i = 5 ∨ i = 6 ∨ i = 7 ∨ i = 8 ∨ i = 9 ∨ i = 10 ∨ i = 11 ∨ i = 12 ∨ i = 13 ∨ i = 14 ∨ i = 15 ∨ i = 16 ∨ i = 17 ∨ i = 18 ∨ i = 19 ∨ i = 20 ∨ i = 21 ∨ i = 22 ∨ i = 23 ∨ i = 24 ∨ i = 25 ∨ i = 26 ∨ i = 27 := by simp at hlt; omega
         clear hlt
         rcases hi7 with rfl | rfl | rfl | rfl | rfl | rfl | rfl | rfl | rfl | rfl | rfl | rfl | rfl | rfl | rfl | rfl | rfl | rfl | rfl | rfl | rfl | rfl | rfl | rfl | rfl | rfl | rfl | rfl
         all_goals simp [Region.binds] at hp
         · have hn0 : b0 = false := by revert hp; cases b0 <;> simp
           clear hp
           subst hn0
           refine inv_op (o := ⟨some 47, _, _, _, _, _⟩) rfl (fun K' hK' => ?_)
           go_simp
           obtain ⟨h0, h1, h2, h3, h4, h5, h6, h7, h8, h9, h10, h11, h12, h13, h14, h15, h16, h17, h18, h19, h20, h22, h24, h25, h26, gi22, gi27, gi23, rW0, rD0, rC0, gB, gP, gX, gF⟩ := HI.out
           exact hK'.out _ _ ⟨⟨true, b1, b2, b3, b4, b5, b6, b7, b8, b9, b10, b11, b12, b13, b14, b15, b16, b17, b18, b19, b20, b21, b22, b23, b24, b25, b26, b27, _, s48, s49, s50, s51, s52, s53, s54, s55, s56, s57, s58, s59, s60, s61, s62, s63, s64, s65, s66, s67, s68, s46, s69, s70, s71, s72⟩, rfl, rfl, (fun _ => rfl), h1, h2, h3, h4, h5, h6, h7, h8, h9, h10, h11, h12, h13, h14, h15, h16, h17, h18, h19, h20, h22, h24, h25, h26, gi22, gi27, gi23, rW0, rD0, rC0, gB, gP, gX, gF⟩
         · have hn1 : b1 = false := by revert hp; cases b1 <;> simp
           clear hp
           subst hn1
           refine inv_op (o := ⟨some 48, _, _, _, _, _⟩) rfl (fun K' hK' => ?_)
           go_simp
           obtain ⟨h0, h1, h2, h3, h4, h5, h6, h7, h8, h9, h10, h11, h12, h13, h14, h15, h16, h17, h18, h19, h20, h22, h24, h25, h26, gi22, gi27, gi23, rW0, rD0, rC0, gB, gP, gX, gF⟩ := HI.out
           exact hK'.out _ _ ⟨⟨b0, true, b2, b3, b4, b5, b6, b7, b8, b9, b10, b11, b12, b13, b14, b15, b16, b17, b18, b19, b20, b21, b22, b23, b24, b25, b26, b27, s47, _, s49, s50, s51, s52, s53, s54, s55, s56, s57, s58, s59, s60, s61, s62, s63, s64, s65, s66, s67, s68, s46, s69, s70, s71, s72⟩, rfl, rfl, h0, (fun _ => rfl), h2, h3, h4, h5, h6, h7, h8, h9, h10, h11, h12, h13, h14, h15, h16, h17, h18, h19, h20, h22, h24, h25, h26, gi22, gi27, gi23, rW0, rD0, rC0, gB, gP, gX, gF⟩
         · have hn2 : b2 = false := by revert hp; cases b2 <;> simp
           have e1 : b1 = true := by revert hp; cases b1 <;> simp
           clear hp
           obtain rfl := (HI.out.2.1) e1
           subst hn2
           refine inv_op (o := ⟨some 49, _, _, _, _, _⟩) rfl (fun K' hK' => ?_)
           go_simp
           obtain ⟨h0, h1, h2, h3, h4, h5, h6, h7, h8, h9, h10, h11, h12, h13, h14, h15, h16, h17, h18, h19, h20, h22, h24, h25, h26, gi22, gi27, gi23, rW0, rD0, rC0, gB, gP, gX, gF⟩ := HI.out
           exact hK'.out _ _ ⟨⟨b0, b1, true, b3, b4, b5, b6, b7, b8, b9, b10, b11, b12, b13, b14, b15, b16, b17, b18, b19, b20, b21, b22, b23, b24, b25, b26, b27, s47, _, _, s50, s51, s52, s53, s54, s55, s56, s57, s58, s59, s60, s61, s62, s63, s64, s65, s66, s67, s68, s46, s69, s70, s71, s72⟩, rfl, rfl, h0, h1, (fun _ => rfl), h3, h4, h5, h6, h7, h8, h9, h10, h11, h12, h13, h14, h15, h16, h17, h18, h19, h20, h22, h24, h25, h26, gi22, gi27, gi23, rW0, rD0, rC0, gB, gP, gX, gF⟩
         · have hn3 : b3 = false := by revert hp; cases b3 <;> simp
           have e2 : b2 = true := by revert hp; cases b2 <;> simp
           clear hp
           obtain rfl := (HI.out.2.2.1) e2
           subst hn3
           refine inv_op (o := ⟨some 50, _, _, _, _, _⟩) rfl (fun K' hK' => ?_)
           go_simp
           obtain ⟨h0, h1, h2, h3, h4, h5, h6, h7, h8, h9, h10, h11, h12, h13, h14, h15, h16, h17, h18, h19, h20, h22, h24, h25, h26, gi22, gi27, gi23, rW0, rD0, rC0, gB, gP, gX, gF⟩ := HI.out
           exact hK'.out _ _ ⟨⟨b0, b1, b2, true, b4, b5, b6, b7, b8, b9, b10, b11, b12, b13, b14, b15, b16, b17, b18, b19, b20, b21, b22, b23, b24, b25, b26, b27, s47, s48, _, _, s51, s52, s53, s54, s55, s56, s57, s58, s59, s60, s61, s62, s63, s64, s65, s66, s67, s68, s46, s69, s70, s71, s72⟩, rfl, rfl, h0, h1, h2, (fun _ => rfl), h4, h5, h6, h7, h8, h9, h10, h11, h12, h13, h14, h15, h16, h17, h18, h19, h20, h22, h24, h25, h26, gi22, gi27, gi23, rW0, rD0, rC0, gB, gP, gX, gF⟩
         · have hn4 : b4 = false := by revert hp; cases b4 <;> simp
           have e3 : b3 = true := by revert hp; cases b3 <;> simp
           clear hp
           obtain rfl := (HI.out.2.2.2.1) e3
           subst hn4
           refine inv_op (o := ⟨some 51, _, _, _, _, _⟩) rfl (fun K' hK' => ?_)
           have gi27 := HI.out.2.2.2.2.2.2.2.2.2.2.2.2.2.2.2.2.2.2.2.2.2.2.2.2.2.2.1
           have rW0 := HI.out.2.2.2.2.2.2.2.2.2.2.2.2.2.2.2.2.2.2.2.2.2.2.2.2.2.2.2.2.1
           have hbf27 : b27 = false := by cases b27 with | false => rfl | true => exact absurd ((gi27 rfl).1) (by decide)
           subst hbf27
           obtain ⟨hc6, _⟩ := at_cell (rW0 rfl) 6 _ rfl
           go_simp
           obtain ⟨h0, h1, h2, h3, h4, h5, h6, h7, h8, h9, h10, h11, h12, h13, h14, h15, h16, h17, h18, h19, h20, h22, h24, h25, h26, gi22, gi27, gi23, rW0, rD0, rC0, gB, gP, gX, gF⟩ := HI.out
           exact hK'.out _ _ ⟨⟨b0, b1, b2, b3, true, b5, b6, b7, b8, b9, b10, b11, b12, b13, b14, b15, b16, b17, b18, b19, b20, b21, b22, b23, b24, b25, b26, false, s47, s48, s49, _, _, s52, s53, s54, s55, s56, s57, s58, s59, s60, s61, s62, s63, s64, s65, s66, s67, s68, s46, s69, s70, s71, s72⟩, rfl, rfl, h0, h1, h2, h3, (fun _ => rfl), h5, h6, h7, h8, h9, h10, h11, h12, h13, h14, h15, h16, h17, h18, h19, h20, h22, h24, h25, h26, gi22, (fun e => by cases e), gi23, rW0, rD0, rC0, gB, gP, gX, (fun e => by cases e)⟩
         · have hn5 : b5 = false := by revert hp; cases b5 <;> simp
           clear hp
           subst hn5
           refine inv_op (o := ⟨some 52, _, _, _, _, _⟩) rfl (fun K' hK' => ?_)
           go_simp
           obtain ⟨h0, h1, h2, h3, h4, h5, h6, h7, h8, h9, h10, h11, h12, h13, h14, h15, h16, h17, h18, h19, h20, h22, h24, h25, h26, gi22, gi27, gi23, rW0, rD0, rC0, gB, gP, gX, gF⟩ := HI.out
           exact hK'.out _ _ ⟨⟨b0, b1, b2, b3, b4, true, b6, b7, b8, b9, b10, b11, b12, b13, b14, b15, b16, b17, b18, b19, b20, b21, b22, b23, b24, b25, b26, b27, s47, s48, s49, s50, s51, _, s53, s54, s55, s56, s57, s58, s59, s60, s61, s62, s63, s64, s65, s66, s67, s68, s46, s69, s70, s71, s72⟩, rfl, rfl, h0, h1, h2, h3, h4, (fun _ => rfl), h6, h7, h8, h9, h10, h11, h12, h13, h14, h15, h16, h17, h18, h19, h20, h22, h24, h25, h26, gi22, gi27, gi23, rW0, rD0, rC0, gB, gP, gX, gF⟩
         · have hn6 : b6 = false := by revert hp; cases b6 <;> simp
           have e5 : b5 = true := by revert hp; cases b5 <;> simp
           clear hp
           obtain rfl := (HI.out.2.2.2.2.2.1) e5
           subst hn6
           refine inv_op (o := ⟨some 53, _, _, _, _, _⟩) rfl (fun K' hK' => ?_)
           go_simp
           obtain ⟨h0, h1, h2, h3, h4, h5, h6, h7, h8, h9, h10, h11, h12, h13, h14, h15, h16, h17, h18, h19, h20, h22, h24, h25, h26, gi22, gi27, gi23, rW0, rD0, rC0, gB, gP, gX, gF⟩ := HI.out
           exact hK'.out _ _ ⟨⟨b0, b1, b2, b3, b4, b5, true, b7, b8, b9, b10, b11, b12, b13, b14, b15, b16, b17, b18, b19, b20, b21, b22, b23, b24, b25, b26, b27, s47, s48, s49, s50, s51, _, _, s54, s55, s56, s57, s58, s59, s60, s61, s62, s63, s64, s65, s66, s67, s68, s46, s69, s70, s71, s72⟩, rfl, rfl, h0, h1, h2, h3, h4, h5, (fun _ => rfl), h7, h8, h9, h10, h11, h12, h13, h14, h15, h16, h17, h18, h19, h20, h22, h24, h25, h26, gi22, gi27, gi23, rW0, rD0, rC0, gB, gP, gX, gF⟩
         · have hn7 : b7 = false := by revert hp; cases b7 <;> simp
           have e6 : b6 = true := by revert hp; cases b6 <;> simp
           clear hp
           obtain rfl := (HI.out.2.2.2.2.2.2.1) e6
           subst hn7
           refine inv_op (o := ⟨some 54, _, _, _, _, _⟩) rfl (fun K' hK' => ?_)
           go_simp
           obtain ⟨h0, h1, h2, h3, h4, h5, h6, h7, h8, h9, h10, h11, h12, h13, h14, h15, h16, h17, h18, h19, h20, h22, h24, h25, h26, gi22, gi27, gi23, rW0, rD0, rC0, gB, gP, gX, gF⟩ := HI.out
           exact hK'.out _ _ ⟨⟨b0, b1, b2, b3, b4, b5, b6, true, b8, b9, b10, b11, b12, b13, b14, b15, b16, b17, b18, b19, b20, b21, b22, b23, b24, b25, b26, b27, s47, s48, s49, s50, s51, s52, _, _, s55, s56, s57, s58, s59, s60, s61, s62, s63, s64, s65, s66, s67, s68, s46, s69, s70, s71, s72⟩, rfl, rfl, h0, h1, h2, h3, h4, h5, h6, (fun _ => rfl), h8, h9, h10, h11, h12, h13, h14, h15, h16, h17, h18, h19, h20, h22, h24, h25, h26, gi22, gi27, gi23, rW0, rD0, rC0, gB, gP, gX, gF⟩
         · have hn8 : b8 = false := by revert hp; cases b8 <;> simp
           have e7 : b7 = true := by revert hp; cases b7 <;> simp
           clear hp
           obtain rfl := (HI.out.2.2.2.2.2.2.2.1) e7
           subst hn8
           refine inv_op (o := ⟨some 55, _, _, _, _, _⟩) rfl (fun K' hK' => ?_)
           go_simp
           obtain ⟨h0, h1, h2, h3, h4, h5, h6, h7, h8, h9, h10, h11, h12, h13, h14, h15, h16, h17, h18, h19, h20, h22, h24, h25, h26, gi22, gi27, gi23, rW0, rD0, rC0, gB, gP, gX, gF⟩ := HI.out
           exact hK'.out _ _ ⟨⟨b0, b1, b2, b3, b4, b5, b6, b7, true, b9, b10, b11, b12, b13, b14, b15, b16, b17, b18, b19, b20, b21, b22, b23, b24, b25, b26, b27, s47, s48, s49, s50, s51, s52, s53, _, _, s56, s57, s58, s59, s60, s61, s62, s63, s64, s65, s66, s67, s68, s46, s69, s70, s71, s72⟩, rfl, rfl, h0, h1, h2, h3, h4, h5, h6, h7, (fun _ => rfl), h9, h10, h11, h12, h13, h14, h15, h16, h17, h18, h19, h20, h22, h24, h25, h26, gi22, gi27, gi23, rW0, rD0, rC0, gB, gP, gX, gF⟩
         · have hn9 : b9 = false := by revert hp; cases b9 <;> simp
           have e8 : b8 = true := by revert hp; cases b8 <;> simp
           clear hp
           obtain rfl := (HI.out.2.2.2.2.2.2.2.2.1) e8
           subst hn9
           refine inv_op (o := ⟨some 56, _, _, _, _, _⟩) rfl (fun K' hK' => ?_)
           have gi27 := HI.out.2.2.2.2.2.2.2.2.2.2.2.2.2.2.2.2.2.2.2.2.2.2.2.2.2.2.1
           have rW0 := HI.out.2.2.2.2.2.2.2.2.2.2.2.2.2.2.2.2.2.2.2.2.2.2.2.2.2.2.2.2.1
           have hbf27 : b27 = false := by cases b27 with | false => rfl | true => exact absurd ((gi27 rfl).2.1) (by decide)
           subst hbf27
           obtain ⟨hc0, _⟩ := at_cell (rW0 rfl) 0 _ rfl
           go_simp
           obtain ⟨h0, h1, h2, h3, h4, h5, h6, h7, h8, h9, h10, h11, h12, h13, h14, h15, h16, h17, h18, h19, h20, h22, h24, h25, h26, gi22, gi27, gi23, rW0, rD0, rC0, gB, gP, gX, gF⟩ := HI.out
           exact hK'.out _ _ ⟨⟨b0, b1, b2, b3, b4, b5, b6, b7, b8, true, b10, b11, b12, b13, b14, b15, b16, b17, b18, b19, b20, b21, b22, b23, b24, b25, b26, false, s47, s48, s49, s50, s51, s52, s53, s54, _, _, s57, s58, s59, s60, s61, s62, s63, s64, s65, s66, s67, s68, s46, s69, s70, s71, s72⟩, rfl, rfl, h0, h1, h2, h3, h4, h5, h6, h7, h8, (fun _ => rfl), h10, h11, h12, h13, h14, h15, h16, h17, h18, h19, h20, h22, h24, h25, h26, gi22, (fun e => by cases e), gi23, rW0, rD0, rC0, gB, gP, gX, (fun e => by cases e)⟩
         · have hn10 : b10 = false := by revert hp; cases b10 <;> simp
           clear hp
           subst hn10
           refine inv_op (o := ⟨some 57, _, _, _, _, _⟩) rfl (fun K' hK' => ?_)
           go_simp
           obtain ⟨h0, h1, h2, h3, h4, h5, h6, h7, h8, h9, h10, h11, h12, h13, h14, h15, h16, h17, h18, h19, h20, h22, h24, h25, h26, gi22, gi27, gi23, rW0, rD0, rC0, gB, gP, gX, gF⟩ := HI.out
           exact hK'.out _ _ ⟨⟨b0, b1, b2, b3, b4, b5, b6, b7, b8, b9, true, b11, b12, b13, b14, b15, b16, b17, b18, b19, b20, b21, b22, b23, b24, b25, b26, b27, s47, s48, s49, s50, s51, s52, s53, s54, s55, s56, _, s58, s59, s60, s61, s62, s63, s64, s65, s66, s67, s68, s46, s69, s70, s71, s72⟩, rfl, rfl, h0, h1, h2, h3, h4, h5, h6, h7, h8, h9, (fun _ => rfl), h11, h12, h13, h14, h15, h16, h17, h18, h19, h20, h22, h24, h25, h26, gi22, gi27, gi23, rW0, rD0, rC0, gB, gP, gX, gF⟩
         · have hn11 : b11 = false := by revert hp; cases b11 <;> simp
           have e10 : b10 = true := by revert hp; cases b10 <;> simp
           clear hp
           obtain rfl := (HI.out.2.2.2.2.2.2.2.2.2.2.1) e10
           subst hn11
           refine inv_op (o := ⟨some 58, _, _, _, _, _⟩) rfl (fun K' hK' => ?_)
           go_simp
           obtain ⟨h0, h1, h2, h3, h4, h5, h6, h7, h8, h9, h10, h11, h12, h13, h14, h15, h16, h17, h18, h19, h20, h22, h24, h25, h26, gi22, gi27, gi23, rW0, rD0, rC0, gB, gP, gX, gF⟩ := HI.out
           exact hK'.out _ _ ⟨⟨b0, b1, b2, b3, b4, b5, b6, b7, b8, b9, b10, true, b12, b13, b14, b15, b16, b17, b18, b19, b20, b21, b22, b23, b24, b25, b26, b27, s47, s48, s49, s50, s51, s52, s53, s54, s55, s56, _, _, s59, s60, s61, s62, s63, s64, s65, s66, s67, s68, s46, s69, s70, s71, s72⟩, rfl, rfl, h0, h1, h2, h3, h4, h5, h6, h7, h8, h9, h10, (fun _ => rfl), h12, h13, h14, h15, h16, h17, h18, h19, h20, h22, h24, h25, h26, gi22, gi27, gi23, rW0, rD0, rC0, gB, gP, gX, gF⟩
         · have hn12 : b12 = false := by revert hp; cases b12 <;> simp
           have e11 : b11 = true := by revert hp; cases b11 <;> simp
           clear hp
           obtain rfl := (HI.out.2.2.2.2.2.2.2.2.2.2.2.1) e11
           subst hn12
           refine inv_op (o := ⟨some 59, _, _, _, _, _⟩) rfl (fun K' hK' => ?_)
           go_simp
           obtain ⟨h0, h1, h2, h3, h4, h5, h6, h7, h8, h9, h10, h11, h12, h13, h14, h15, h16, h17, h18, h19, h20, h22, h24, h25, h26, gi22, gi27, gi23, rW0, rD0, rC0, gB, gP, gX, gF⟩ := HI.out
           exact hK'.out _ _ ⟨⟨b0, b1, b2, b3, b4, b5, b6, b7, b8, b9, b10, b11, true, b13, b14, b15, b16, b17, b18, b19, b20, b21, b22, b23, b24, b25, b26, b27, s47, s48, s49, s50, s51, s52, s53, s54, s55, s56, s57, _, _, s60, s61, s62, s63, s64, s65, s66, s67, s68, s46, s69, s70, s71, s72⟩, rfl, rfl, h0, h1, h2, h3, h4, h5, h6, h7, h8, h9, h10, h11, (fun _ => rfl), h13, h14, h15, h16, h17, h18, h19, h20, h22, h24, h25, h26, gi22, gi27, gi23, rW0, rD0, rC0, gB, gP, gX, gF⟩
         · have hn13 : b13 = false := by revert hp; cases b13 <;> simp
           have e12 : b12 = true := by revert hp; cases b12 <;> simp
           clear hp
           obtain rfl := (HI.out.2.2.2.2.2.2.2.2.2.2.2.2.1) e12
           subst hn13
           refine inv_op (o := ⟨some 60, _, _, _, _, _⟩) rfl (fun K' hK' => ?_)
           go_simp
           obtain ⟨h0, h1, h2, h3, h4, h5, h6, h7, h8, h9, h10, h11, h12, h13, h14, h15, h16, h17, h18, h19, h20, h22, h24, h25, h26, gi22, gi27, gi23, rW0, rD0, rC0, gB, gP, gX, gF⟩ := HI.out
           exact hK'.out _ _ ⟨⟨b0, b1, b2, b3, b4, b5, b6, b7, b8, b9, b10, b11, b12, true, b14, b15, b16, b17, b18, b19, b20, b21, b22, b23, b24, b25, b26, b27, s47, s48, s49, s50, s51, s52, s53, s54, s55, s56, s57, s58, _, _, s61, s62, s63, s64, s65, s66, s67, s68, s46, s69, s70, s71, s72⟩, rfl, rfl, h0, h1, h2, h3, h4, h5, h6, h7, h8, h9, h10, h11, h12, (fun _ => rfl), h14, h15, h16, h17, h18, h19, h20, h22, h24, h25, h26, gi22, gi27, gi23, rW0, rD0, rC0, gB, gP, gX, gF⟩
         · have hn14 : b14 = false := by revert hp; cases b14 <;> simp
           have e13 : b13 = true := by revert hp; cases b13 <;> simp
           clear hp
           obtain rfl := (HI.out.2.2.2.2.2.2.2.2.2.2.2.2.2.1) e13
           subst hn14
           refine inv_op (o := ⟨some 61, _, _, _, _, _⟩) rfl (fun K' hK' => ?_)
           have gi27 := HI.out.2.2.2.2.2.2.2.2.2.2.2.2.2.2.2.2.2.2.2.2.2.2.2.2.2.2.1
           have rW0 := HI.out.2.2.2.2.2.2.2.2.2.2.2.2.2.2.2.2.2.2.2.2.2.2.2.2.2.2.2.2.1
           have hbf27 : b27 = false := by cases b27 with | false => rfl | true => exact absurd ((gi27 rfl).2.2.1) (by decide)
           subst hbf27
           obtain ⟨hc1, _⟩ := at_cell (rW0 rfl) 1 _ rfl
           go_simp
           obtain ⟨h0, h1, h2, h3, h4, h5, h6, h7, h8, h9, h10, h11, h12, h13, h14, h15, h16, h17, h18, h19, h20, h22, h24, h25, h26, gi22, gi27, gi23, rW0, rD0, rC0, gB, gP, gX, gF⟩ := HI.out
           exact hK'.out _ _ ⟨⟨b0, b1, b2, b3, b4, b5, b6, b7, b8, b9, b10, b11, b12, b13, true, b15, b16, b17, b18, b19, b20, b21, b22, b23, b24, b25, b26, false, s47, s48, s49, s50, s51, s52, s53, s54, s55, s56, s57, s58, s59, _, _, s62, s63, s64, s65, s66, s67, s68, s46, s69, s70, s71, s72⟩, rfl, rfl, h0, h1, h2, h3, h4, h5, h6, h7, h8, h9, h10, h11, h12, h13, (fun _ => rfl), h15, h16, h17, h18, h19, h20, h22, h24, h25, h26, gi22, (fun e => by cases e), gi23, rW0, rD0, rC0, gB, gP, gX, (fun e => by cases e)⟩
         · have hn15 : b15 = false := by revert hp; cases b15 <;> simp
           clear hp
           subst hn15
           refine inv_op (o := ⟨some 62, _, _, _, _, _⟩) rfl (fun K' hK' => ?_)
           go_simp
           obtain ⟨h0, h1, h2, h3, h4, h5, h6, h7, h8, h9, h10, h11, h12, h13, h14, h15, h16, h17, h18, h19, h20, h22, h24, h25, h26, gi22, gi27, gi23, rW0, rD0, rC0, gB, gP, gX, gF⟩ := HI.out
           exact hK'.out _ _ ⟨⟨b0, b1, b2, b3, b4, b5, b6, b7, b8, b9, b10, b11, b12, b13, b14, true, b16, b17, b18, b19, b20, b21, b22, b23, b24, b25, b26, b27, s47, s48, s49, s50, s51, s52, s53, s54, s55, s56, s57, s58, s59, s60, s61, _, s63, s64, s65, s66, s67, s68, s46, s69, s70, s71, s72⟩, rfl, rfl, h0, h1, h2, h3, h4, h5, h6, h7, h8, h9, h10, h11, h12, h13, h14, (fun _ => rfl), h16, h17, h18, h19, h20, h22, h24, h25, h26, gi22, gi27, gi23, rW0, rD0, rC0, gB, gP, gX, gF⟩
         · have hn16 : b16 = false := by revert hp; cases b16 <;> simp
           have e15 : b15 = true := by revert hp; cases b15 <;> simp
           clear hp
           obtain rfl := (HI.out.2.2.2.2.2.2.2.2.2.2.2.2.2.2.2.1) e15
           subst hn16
           refine inv_op (o := ⟨some 63, _, _, _, _, _⟩) rfl (fun K' hK' => ?_)
           have gi27 := HI.out.2.2.2.2.2.2.2.2.2.2.2.2.2.2.2.2.2.2.2.2.2.2.2.2.2.2.1
           have rC0 := HI.out.2.2.2.2.2.2.2.2.2.2.2.2.2.2.2.2.2.2.2.2.2.2.2.2.2.2.2.2.2.2.1
           have hbf27 : b27 = false := by cases b27 with | false => rfl | true => exact absurd ((gi27 rfl).2.2.2.1) (by decide)
           subst hbf27
           obtain ⟨hc1, _⟩ := at_cell (rC0 rfl) 1 _ rfl
           go_simp
           obtain ⟨h0, h1, h2, h3, h4, h5, h6, h7, h8, h9, h10, h11, h12, h13, h14, h15, h16, h17, h18, h19, h20, h22, h24, h25, h26, gi22, gi27, gi23, rW0, rD0, rC0, gB, gP, gX, gF⟩ := HI.out
           exact hK'.out _ _ ⟨⟨b0, b1, b2, b3, b4, b5, b6, b7, b8, b9, b10, b11, b12, b13, b14, b15, true, b17, b18, b19, b20, b21, b22, b23, b24, b25, b26, false, s47, s48, s49, s50, s51, s52, s53, s54, s55, s56, s57, s58, s59, s60, s61, _, _, s64, s65, s66, s67, s68, s46, s69, s70, s71, s72⟩, rfl, rfl, h0, h1, h2, h3, h4, h5, h6, h7, h8, h9, h10, h11, h12, h13, h14, h15, (fun _ => rfl), h17, h18, h19, h20, h22, h24, h25, h26, gi22, (fun e => by cases e), gi23, rW0, rD0, rC0, gB, gP, gX, (fun e => by cases e)⟩
         · have hn17 : b17 = false := by revert hp; cases b17 <;> simp
           clear hp
           subst hn17
           refine inv_op (o := ⟨some 64, _, _, _, _, _⟩) rfl (fun K' hK' => ?_)
           go_simp
           obtain ⟨h0, h1, h2, h3, h4, h5, h6, h7, h8, h9, h10, h11, h12, h13, h14, h15, h16, h17, h18, h19, h20, h22, h24, h25, h26, gi22, gi27, gi23, rW0, rD0, rC0, gB, gP, gX, gF⟩ := HI.out
           exact hK'.out _ _ ⟨⟨b0, b1, b2, b3, b4, b5, b6, b7, b8, b9, b10, b11, b12, b13, b14, b15, b16, true, b18, b19, b20, b21, b22, b23, b24, b25, b26, b27, s47, s48, s49, s50, s51, s52, s53, s54, s55, s56, s57, s58, s59, s60, s61, s62, s63, _, s65, s66, s67, s68, s46, s69, s70, s71, s72⟩, rfl, rfl, h0, h1, h2, h3, h4, h5, h6, h7, h8, h9, h10, h11, h12, h13, h14, h15, h16, (fun _ => rfl), h18, h19, h20, h22, h24, h25, h26, gi22, gi27, gi23, rW0, rD0, rC0, gB, gP, gX, gF⟩
         · have hn18 : b18 = false := by revert hp; cases b18 <;> simp
           have e16 : b16 = true := by revert hp; cases b16 <;> simp
           have e17 : b17 = true := by revert hp; cases b17 <;> simp
           clear hp
           obtain rfl := (HI.out.2.2.2.2.2.2.2.2.2.2.2.2.2.2.2.2.1) e16
           obtain rfl := (HI.out.2.2.2.2.2.2.2.2.2.2.2.2.2.2.2.2.2.1) e17
           subst hn18
           refine inv_op (o := ⟨some 65, _, _, _, _, _⟩) rfl (fun K' hK' => ?_)
           go_simp
           obtain ⟨h0, h1, h2, h3, h4, h5, h6, h7, h8, h9, h10, h11, h12, h13, h14, h15, h16, h17, h18, h19, h20, h22, h24, h25, h26, gi22, gi27, gi23, rW0, rD0, rC0, gB, gP, gX, gF⟩ := HI.out
           exact hK'.out _ _ ⟨⟨b0, b1, b2, b3, b4, b5, b6, b7, b8, b9, b10, b11, b12, b13, b14, b15, b16, b17, true, b19, b20, b21, b22, b23, b24, b25, b26, b27, s47, s48, s49, s50, s51, s52, s53, s54, s55, s56, s57, s58, s59, s60, s61, s62, _, _, _, s66, s67, s68, s46, s69, s70, s71, s72⟩, rfl, rfl, h0, h1, h2, h3, h4, h5, h6, h7, h8, h9, h10, h11, h12, h13, h14, h15, h16, h17, (fun _ => rfl), h19, h20, h22, h24, h25, h26, gi22, gi27, gi23, rW0, rD0, rC0, gB, gP, gX, gF⟩
         · have hn19 : b19 = false := by revert hp; cases b19 <;> simp
           have e18 : b18 = true := by revert hp; cases b18 <;> simp
           clear hp
           obtain rfl := (HI.out.2.2.2.2.2.2.2.2.2.2.2.2.2.2.2.2.2.2.1) e18
           subst hn19
           refine inv_op (o := ⟨some 66, _, _, _, _, _⟩) rfl (fun K' hK' => ?_)
           have gi27 := HI.out.2.2.2.2.2.2.2.2.2.2.2.2.2.2.2.2.2.2.2.2.2.2.2.2.2.2.1
           have gB := HI.out.2.2.2.2.2.2.2.2.2.2.2.2.2.2.2.2.2.2.2.2.2.2.2.2.2.2.2.2.2.2.2.1
           have hbf27 : b27 = false := by cases b27 with | false => rfl | true => exact absurd ((gi27 rfl).2.2.2.2.1) (by decide)
           subst hbf27
           have hc7 := (HX4.out.below (gB rfl)).at k HKD.out
           rw [HDK.out] at hc7
           go_simp
           obtain ⟨h0, h1, h2, h3, h4, h5, h6, h7, h8, h9, h10, h11, h12, h13, h14, h15, h16, h17, h18, h19, h20, h22, h24, h25, h26, gi22, gi27, gi23, rW0, rD0, rC0, gB, gP, gX, gF⟩ := HI.out
           exact hK'.out _ _ ⟨⟨b0, b1, b2, b3, b4, b5, b6, b7, b8, b9, b10, b11, b12, b13, b14, b15, b16, b17, b18, true, b20, b21, b22, b23, b24, b25, b26, false, s47, s48, s49, s50, s51, s52, s53, s54, s55, s56, s57, s58, s59, s60, s61, s62, s63, s64, _, _, s67, s68, s46, s69, s70, s71, s72⟩, rfl, rfl, h0, h1, h2, h3, h4, h5, h6, h7, h8, h9, h10, h11, h12, h13, h14, h15, h16, h17, h18, (fun _ => rfl), h20, h22, h24, h25, h26, gi22, (fun e => by cases e), gi23, rW0, rD0, rC0, gB, gP, gX, (fun e => by cases e)⟩
         · have hn20 : b20 = false := by revert hp; cases b20 <;> simp
           clear hp
           subst hn20
           refine inv_op (o := ⟨some 67, _, _, _, _, _⟩) rfl (fun K' hK' => ?_)
           have gi27 := HI.out.2.2.2.2.2.2.2.2.2.2.2.2.2.2.2.2.2.2.2.2.2.2.2.2.2.2.1
           have rD0 := HI.out.2.2.2.2.2.2.2.2.2.2.2.2.2.2.2.2.2.2.2.2.2.2.2.2.2.2.2.2.2.1
           have hbf27 : b27 = false := by cases b27 with | false => rfl | true => exact absurd ((gi27 rfl).2.2.2.2.2.1) (by decide)
           subst hbf27
           obtain ⟨hc0, _⟩ := at_cell (rD0 rfl) 0 _ rfl
           obtain ⟨hc1, _⟩ := at_cell (rD0 rfl) 1 _ rfl
           obtain ⟨hc2, _⟩ := at_cell (rD0 rfl) 2 _ rfl
           obtain ⟨hc3, _⟩ := at_cell (rD0 rfl) 3 _ rfl
           go_simp
           obtain ⟨h0, h1, h2, h3, h4, h5, h6, h7, h8, h9, h10, h11, h12, h13, h14, h15, h16, h17, h18, h19, h20, h22, h24, h25, h26, gi22, gi27, gi23, rW0, rD0, rC0, gB, gP, gX, gF⟩ := HI.out
           exact hK'.out _ _ ⟨⟨b0, b1, b2, b3, b4, b5, b6, b7, b8, b9, b10, b11, b12, b13, b14, b15, b16, b17, b18, b19, true, b21, b22, b23, b24, b25, b26, false, s47, s48, s49, s50, s51, s52, s53, s54, s55, s56, s57, s58, s59, s60, s61, s62, s63, s64, s65, s66, _, s68, s46, s69, s70, s71, s72⟩, rfl, rfl, h0, h1, h2, h3, h4, h5, h6, h7, h8, h9, h10, h11, h12, h13, h14, h15, h16, h17, h18, h19, (fun _ => rfl), h22, h24, h25, h26, gi22, (fun e => by cases e), gi23, rW0, rD0, rC0, gB, gP, gX, (fun e => by cases e)⟩
         · have hn21 : b21 = false := by revert hp; cases b21 <;> simp
           have e4 : b4 = true := by revert hp; cases b4 <;> simp
           have e9 : b9 = true := by revert hp; cases b9 <;> simp
           have e14 : b14 = true := by revert hp; cases b14 <;> simp
           have e19 : b19 = true := by revert hp; cases b19 <;> simp
           have e20 : b20 = true := by revert hp; cases b20 <;> simp
           clear hp
           obtain rfl := (HI.out.2.2.2.2.1) e4
           obtain rfl := (HI.out.2.2.2.2.2.2.2.2.2.1) e9
           obtain rfl := (HI.out.2.2.2.2.2.2.2.2.2.2.2.2.2.2.1) e14
           obtain rfl := (HI.out.2.2.2.2.2.2.2.2.2.2.2.2.2.2.2.2.2.2.2.1) e19
           obtain rfl := (HI.out.2.2.2.2.2.2.2.2.2.2.2.2.2.2.2.2.2.2.2.2.1) e20
           subst hn21
           refine inv_op (o := ⟨some 68, _, _, _, _, _⟩) rfl (fun K' hK' => ?_)
           have gi22 := HI.out.2.2.2.2.2.2.2.2.2.2.2.2.2.2.2.2.2.2.2.2.2.2.2.2.2.1
           have gi27 := HI.out.2.2.2.2.2.2.2.2.2.2.2.2.2.2.2.2.2.2.2.2.2.2.2.2.2.2.1
           have gi23 := HI.out.2.2.2.2.2.2.2.2.2.2.2.2.2.2.2.2.2.2.2.2.2.2.2.2.2.2.2.1
           have gB := HI.out.2.2.2.2.2.2.2.2.2.2.2.2.2.2.2.2.2.2.2.2.2.2.2.2.2.2.2.2.2.2.2.1
           have hbf22 : b22 = false := by cases b22 with | false => rfl | true => exact absurd ((gi22 rfl)) (by decide)
           subst hbf22
           have hbf27 : b27 = false := by cases b27 with | false => rfl | true => exact absurd ((gi27 rfl).2.2.2.2.2.2) (by decide)
           subst hbf27
           have hbf23 : b23 = false := by cases b23 with | false => rfl | true => exact absurd ((gi23 rfl)) (by decide)
           subst hbf23
           go_simp
           refine (HSD.out W (gB rfl)).mono ?_
           rintro e w2 ⟨ra, rc, rfl, hr, bn⟩
           obtain ⟨h0, h1, h2, h3, h4, h5, h6, h7, h8, h9, h10, h11, h12, h13, h14, h15, h16, h17, h18, h19, h20, h22, h24, h25, h26, gi22, gi27, gi23, rW0, rD0, rC0, gB, gP, gX, gF⟩ := HI.out
           exact hK'.out _ _ ⟨⟨b0, b1, b2, b3, b4, b5, b6, b7, b8, b9, b10, b11, b12, b13, b14, b15, b16, b17, b18, b19, b20, true, false, false, b24, b25, b26, false, s47, s48, s49, s50, _, s52, s53, s54, s55, _, s57, s58, s59, s60, _, s62, s63, s64, s65, _, _, _, s46, s69, s70, s71, s72⟩, rfl, rfl, h0, h1, h2, h3, h4, h5, h6, h7, h8, h9, h10, h11, h12, h13, h14, h15, h16, h17, h18, h19, h20, (fun e => by cases ((gi22 e))), h24, h25, h26, (fun e => by cases e), (fun e => by cases e), (fun e => by cases e), (fun e => row_keep (rW0 e) bn), (fun e => row_keep (rD0 e) bn), (fun e => row_keep (rC0 e) bn), (fun e => (gB e).trans (bn.mono (gB e).size)), (fun _ => ⟨ra, rc, rfl, hr⟩), (fun e => by cases e), (fun e => by cases e)⟩
         · have hn22 : b22 = false := by revert hp; cases b22 <;> simp
           have e21 : b21 = true := by revert hp; cases b21 <;> simp
           clear hp
           subst hn22
           refine inv_op (o := ⟨some 46, _, _, _, _, _⟩) rfl (fun K' hK' => ?_)
           go_simp
           obtain ⟨h0, h1, h2, h3, h4, h5, h6, h7, h8, h9, h10, h11, h12, h13, h14, h15, h16, h17, h18, h19, h20, h22, h24, h25, h26, gi22, gi27, gi23, rW0, rD0, rC0, gB, gP, gX, gF⟩ := HI.out
           exact hK'.out _ _ ⟨⟨b0, b1, b2, b3, b4, b5, b6, b7, b8, b9, b10, b11, b12, b13, b14, b15, b16, b17, b18, b19, b20, b21, true, b23, b24, b25, b26, b27, s47, s48, s49, s50, s51, s52, s53, s54, s55, s56, s57, s58, s59, s60, s61, s62, s63, s64, s65, s66, s67, _, _, s69, s70, s71, s72⟩, rfl, rfl, h0, h1, h2, h3, h4, h5, h6, h7, h8, h9, h10, h11, h12, h13, h14, h15, h16, h17, h18, h19, h20, (fun _ => rfl), h24, h25, h26, (fun _ => e21), gi27, gi23, rW0, rD0, rC0, gB, gP, gX, gF⟩
         · have hn23 : b23 = false := by revert hp; cases b23 <;> simp
           have e22 : b22 = true := by revert hp; cases b22 <;> simp
           clear hp
           obtain rfl := (HI.out.2.2.2.2.2.2.2.2.2.2.2.2.2.2.2.2.2.2.2.2.2.1) e22
           subst hn23
           refine inv_op (o := ⟨some 69, _, _, _, _, _⟩) rfl (fun K' hK' => ?_)
           have gi22 := HI.out.2.2.2.2.2.2.2.2.2.2.2.2.2.2.2.2.2.2.2.2.2.2.2.2.2.1
           have gP := HI.out.2.2.2.2.2.2.2.2.2.2.2.2.2.2.2.2.2.2.2.2.2.2.2.2.2.2.2.2.2.2.2.2.1
           obtain ⟨ra, rc, rfl, hp⟩ := gP ((gi22 e22))
           go_simp
           obtain ⟨h0, h1, h2, h3, h4, h5, h6, h7, h8, h9, h10, h11, h12, h13, h14, h15, h16, h17, h18, h19, h20, h22, h24, h25, h26, gi22, gi27, gi23, rW0, rD0, rC0, gB, gP, gX, gF⟩ := HI.out
           exact hK'.out _ _ ⟨⟨b0, b1, b2, b3, b4, b5, b6, b7, b8, b9, b10, b11, b12, b13, b14, b15, b16, b17, b18, b19, b20, b21, b22, true, b24, b25, b26, b27, s47, s48, s49, s50, s51, s52, s53, s54, s55, s56, s57, s58, s59, s60, s61, s62, s63, s64, s65, s66, s67, _, _, _, s70, s71, s72⟩, rfl, rfl, h0, h1, h2, h3, h4, h5, h6, h7, h8, h9, h10, h11, h12, h13, h14, h15, h16, h17, h18, h19, h20, h22, h24, h25, h26, gi22, gi27, (fun _ => (gi22 e22)), rW0, rD0, rC0, gB, (fun _ => ⟨ra, rc, rfl, hp⟩), (fun _ => ⟨ra, rc, rfl, hp⟩), gF⟩
         · have hn24 : b24 = false := by revert hp; cases b24 <;> simp
           have e22 : b22 = true := by revert hp; cases b22 <;> simp
           clear hp
           obtain rfl := (HI.out.2.2.2.2.2.2.2.2.2.2.2.2.2.2.2.2.2.2.2.2.2.1) e22
           subst hn24
           refine inv_op (o := ⟨some 70, _, _, _, _, _⟩) rfl (fun K' hK' => ?_)
           have gi22 := HI.out.2.2.2.2.2.2.2.2.2.2.2.2.2.2.2.2.2.2.2.2.2.2.2.2.2.1
           have gP := HI.out.2.2.2.2.2.2.2.2.2.2.2.2.2.2.2.2.2.2.2.2.2.2.2.2.2.2.2.2.2.2.2.2.1
           obtain ⟨ra, rc, rfl, hp⟩ := gP ((gi22 e22))
           go_simp
           obtain ⟨h0, h1, h2, h3, h4, h5, h6, h7, h8, h9, h10, h11, h12, h13, h14, h15, h16, h17, h18, h19, h20, h22, h24, h25, h26, gi22, gi27, gi23, rW0, rD0, rC0, gB, gP, gX, gF⟩ := HI.out
           exact hK'.out _ _ ⟨⟨b0, b1, b2, b3, b4, b5, b6, b7, b8, b9, b10, b11, b12, b13, b14, b15, b16, b17, b18, b19, b20, b21, b22, b23, true, b25, b26, b27, s47, s48, s49, s50, s51, s52, s53, s54, s55, s56, s57, s58, s59, s60, s61, s62, s63, s64, s65, s66, s67, _, _, s69, _, s71, s72⟩, rfl, rfl, h0, h1, h2, h3, h4, h5, h6, h7, h8, h9, h10, h11, h12, h13, h14, h15, h16, h17, h18, h19, h20, h22, (fun _ => rfl), h25, h26, gi22, gi27, gi23, rW0, rD0, rC0, gB, (fun _ => ⟨ra, rc, rfl, hp⟩), gX, gF⟩
         · have hn25 : b25 = false := by revert hp; cases b25 <;> simp
           have e0 : b0 = true := by revert hp; cases b0 <;> simp
           clear hp
           obtain rfl := (HI.out.1) e0
           subst hn25
           refine inv_op (o := ⟨some 71, _, _, _, _, _⟩) rfl (fun K' hK' => ?_)
           go_simp
           obtain ⟨h0, h1, h2, h3, h4, h5, h6, h7, h8, h9, h10, h11, h12, h13, h14, h15, h16, h17, h18, h19, h20, h22, h24, h25, h26, gi22, gi27, gi23, rW0, rD0, rC0, gB, gP, gX, gF⟩ := HI.out
           exact hK'.out _ _ ⟨⟨b0, b1, b2, b3, b4, b5, b6, b7, b8, b9, b10, b11, b12, b13, b14, b15, b16, b17, b18, b19, b20, b21, b22, b23, b24, true, b26, b27, _, s48, s49, s50, s51, s52, s53, s54, s55, s56, s57, s58, s59, s60, s61, s62, s63, s64, s65, s66, s67, s68, s46, s69, s70, _, s72⟩, rfl, rfl, h0, h1, h2, h3, h4, h5, h6, h7, h8, h9, h10, h11, h12, h13, h14, h15, h16, h17, h18, h19, h20, h22, h24, (fun _ => rfl), h26, gi22, gi27, gi23, rW0, rD0, rC0, gB, gP, gX, gF⟩
         · have hn26 : b26 = false := by revert hp; cases b26 <;> simp
           have e25 : b25 = true := by revert hp; cases b25 <;> simp
           clear hp
           obtain rfl := (HI.out.2.2.2.2.2.2.2.2.2.2.2.2.2.2.2.2.2.2.2.2.2.2.2.1) e25
           subst hn26
           refine inv_op (o := ⟨some 72, _, _, _, _, _⟩) rfl (fun K' hK' => ?_)
           go_simp
           obtain ⟨h0, h1, h2, h3, h4, h5, h6, h7, h8, h9, h10, h11, h12, h13, h14, h15, h16, h17, h18, h19, h20, h22, h24, h25, h26, gi22, gi27, gi23, rW0, rD0, rC0, gB, gP, gX, gF⟩ := HI.out
           exact hK'.out _ _ ⟨⟨b0, b1, b2, b3, b4, b5, b6, b7, b8, b9, b10, b11, b12, b13, b14, b15, b16, b17, b18, b19, b20, b21, b22, b23, b24, b25, true, b27, s47, s48, s49, s50, s51, s52, s53, s54, s55, s56, s57, s58, s59, s60, s61, s62, s63, s64, s65, s66, s67, s68, s46, s69, s70, _, _⟩, rfl, rfl, h0, h1, h2, h3, h4, h5, h6, h7, h8, h9, h10, h11, h12, h13, h14, h15, h16, h17, h18, h19, h20, h22, h24, h25, (fun _ => rfl), gi22, gi27, gi23, rW0, rD0, rC0, gB, gP, gX, gF⟩
         · have hn27 : b27 = false := by revert hp; cases b27 <;> simp
           have e23 : b23 = true := by revert hp; cases b23 <;> simp
           have e26 : b26 = true := by revert hp; cases b26 <;> simp
           have e21 : b21 = true := by revert hp; cases b21 <;> simp
           have e4 : b4 = true := by revert hp; cases b4 <;> simp
           have e9 : b9 = true := by revert hp; cases b9 <;> simp
           have e14 : b14 = true := by revert hp; cases b14 <;> simp
           have e16 : b16 = true := by revert hp; cases b16 <;> simp
           have e19 : b19 = true := by revert hp; cases b19 <;> simp
           have e20 : b20 = true := by revert hp; cases b20 <;> simp
           clear hp
           obtain rfl := (HI.out.2.2.2.2.2.2.2.2.2.2.2.2.2.2.2.2.2.2.2.2.2.2.2.2.1) e26
           subst hn27
           refine inv_op (o := ⟨none, _, _, _, _, _⟩) rfl (fun K' hK' => ?_)
           have rW0 := HI.out.2.2.2.2.2.2.2.2.2.2.2.2.2.2.2.2.2.2.2.2.2.2.2.2.2.2.2.2.1
           have gB := HI.out.2.2.2.2.2.2.2.2.2.2.2.2.2.2.2.2.2.2.2.2.2.2.2.2.2.2.2.2.2.2.2.1
           have gX := HI.out.2.2.2.2.2.2.2.2.2.2.2.2.2.2.2.2.2.2.2.2.2.2.2.2.2.2.2.2.2.2.2.2.2.1
           obtain ⟨ra, rc, rfl, hx⟩ := gX e23
           have hrow := rW0 rfl
           have hgb := gB rfl
           obtain ⟨hc, hz⟩ := at_cell hrow 6 _ rfl
           have hlx := (Array.getElem?_eq_some_iff.1 hrow).1
           go_simp
           obtain ⟨h0, h1, h2, h3, h4, h5, h6, h7, h8, h9, h10, h11, h12, h13, h14, h15, h16, h17, h18, h19, h20, h22, h24, h25, h26, gi22, gi27, gi23, rW0, rD0, rC0, gB, gP, gX, gF⟩ := HI.out
           exact hK'.out _ _ ⟨⟨b0, b1, b2, b3, b4, b5, b6, b7, b8, b9, b10, b11, b12, b13, b14, b15, b16, b17, b18, b19, b20, b21, b22, b23, b24, b25, b26, true, s47, s48, s49, s50, s51, s52, s53, s54, s55, s56, s57, s58, s59, s60, s61, s62, s63, s64, s65, s66, s67, s68, s46, _, s70, s71, _⟩, rfl, rfl, h0, h1, h2, h3, h4, h5, h6, h7, h8, h9, h10, h11, h12, h13, h14, h15, h16, h17, h18, h19, h20, h22, h24, h25, h26, gi22, (fun _ => ⟨e4, e9, e14, e16, e19, e20, e21⟩), gi23, (fun e => by cases e), (fun e => by cases e), (fun e => by cases e), (fun e => by cases e), (fun e => by obtain ⟨y0, y1, h1, h2⟩ := gP e; exact ⟨y0, y1, h1, h2.stay hrow (by decide) 6 _⟩), (fun _ => ⟨ra, rc, rfl, hx.stay hrow (by decide) 6 _⟩), (fun _ => ⟨ra, rc, W, rfl, hgb, hx⟩)⟩
        case hdone =>
         rintro ⟨b0, b1, b2, b3, b4, b5, b6, b7, b8, b9, b10, b11, b12, b13, b14, b15, b16, b17, b18, b19, b20, b21, b22, b23, b24, b25, b26, b27, s47, s48, s49, s50, s51, s52, s53, s54, s55, s56, s57, s58, s59, s60, s61, s62, s63, s64, s65, s66, s67, s68, s46, s69, s70, s71, s72⟩ W hI hall
         dsimp only at hI hall ⊢
         have HI := Lib.hid hI
         clear hI
         obtain rfl : b0 = true := hall 0 (by decide)
         obtain rfl : b1 = true := hall 1 (by decide)
         obtain rfl : b2 = true := hall 2 (by decide)
         obtain rfl : b3 = true := hall 3 (by decide)
         obtain rfl : b4 = true := hall 4 (by decide)
         obtain rfl : b5 = true := hall 5 (by decide)
         obtain rfl : b6 = true := hall 6 (by decide)
         obtain rfl : b7 = true := hall 7 (by decide)
         obtain rfl : b8 = true := hall 8 (by decide)
         obtain rfl : b9 = true := hall 9 (by decide)
         obtain rfl : b10 = true := hall 10 (by decide)
         obtain rfl : b11 = true := hall 11 (by decide)
         obtain rfl : b12 = true := hall 12 (by decide)
         obtain rfl : b13 = true := hall 13 (by decide)
         obtain rfl : b14 = true := hall 14 (by decide)
         obtain rfl : b15 = true := hall 15 (by decide)
         obtain rfl : b16 = true := hall 16 (by decide)
         obtain rfl : b17 = true := hall 17 (by decide)
         obtain rfl : b18 = true := hall 18 (by decide)
         obtain rfl : b19 = true := hall 19 (by decide)
         obtain rfl : b20 = true := hall 20 (by decide)
         obtain rfl : b21 = true := hall 21 (by decide)
         obtain rfl : b22 = true := hall 22 (by decide)
         obtain rfl : b23 = true := hall 23 (by decide)
         obtain rfl : b24 = true := hall 24 (by decide)
         obtain rfl : b25 = true := hall 25 (by decide)
         obtain rfl : b26 = true := hall 26 (by decide)
         obtain rfl : b27 = true := hall 27 (by decide)
         have gF := HI.out.2.2.2.2.2.2.2.2.2.2.2.2.2.2.2.2.2.2.2.2.2.2.2.2.2.2.2.2.2.2.2.2.2.2
         clear HI hall
         obtain ⟨ra, rc, w6, rfl, hb6, ho6⟩ := gF rfl
         have hw6 := ((HWw.out.below HBXw.out).below hb6).setM ho6
         have hr6 := row_keep (row_keep HRw.out HBXw.out) hb6
         have hbb := HBXw.out.trans (hb6.mono HBXw.out.size)
         have HW6 := Lib.hid hw6
         have HR6 := Lib.hid (one_other hr6 ⟨g, 6, none⟩ (.slice ra L rc) (blocks_ne hr6 (row_keep HWw.out.row hbb) (fun e => tChW e.symm)))
         have HS6 := Lib.hid ((HSw.out.trans (Spare.of_below hbb (Nat.le_trans HBB.out HSw.out.size) _)).trans (Spare.set (i := 6) (u := .slice ra L rc) (row_keep HWw.out.row hbb) rfl HWw.out.lo))
         clear gF hb6 ho6 hw6 hr6 hbb
         go_wp2
         go_roundw
         case rel => exact ⟨k + 1, ra, rc, by omega, by go_num, by rw [HL2.out]; exact HW6.out, HR6.out, HS6.out⟩
         case measure => simp [intOf]; omega
    | true =>
      by_cases hm : k + 1 < n
      · have hmore : moreAt bs k = true := by unfold moreAt; rw [← HN.out]; exact decide_eq_true hm
        have hk1 : k + 1 < ds.length := by rw [← HDN.out, ← HDN2.out]; omega
        have hdx := HDS.out _ (List.getElem_mem hk1)
        obtain ⟨nx, hnx1⟩ := Int.eq_ofNat_of_zero_le hdx.1
        have hnxl : nx < 65536 := by have := HOK.out.lie; omega
        have hnx2 : ds.getD (k + 1) 0 = (nx : Nat) := by simp [List.getD_eq_getElem?_getD, hk1, hnx1]
        have hnx : nextOf ds bs k = nx := by unfold nextOf; rw [← HN.out, if_pos hm, hnx2]; rfl
        have hw3 : IntKind.u16.wrap ((nx : Nat) : Int) = (nx : Nat) := IntWalk.u16_in _ (by omega)
        have hb3 : decide (((k : Nat) : Int) + 1 < ((n : Nat) : Int)) = true := decide_eq_true (by omega)
        have hcn1 := HDVw.out.at (k + 1) hk1
        rw [hnx2] at hcn1
        have hm2 : k + 1 < dn ∧ ((k : Nat) : Int) + 1 < (dn : Nat) := by have := HDN2.out; omega
        obtain ⟨hm2, hm3⟩ := hm2
        have hlw := (Array.getElem?_eq_some_iff.1 HRw.out).1
        have hlgd := (HDVw.out.lt gd rfl).2
        obtain ⟨⟨q0, q1, q2⟩, _⟩ := cells_three HRw.out
        clear hdx hnx1 hnx2 hk1
        obtain ⟨X, hX⟩ : ∃ X, X = (wr.alloc (.cells #[.int .i64 (px : Nat), .int .i64 (py : Nat), .bool true] 39)).alloc (.cells #[.int .u64 (px : Nat), .int .u32 (py : Nat), .int .u16 3, .int .u16 (nx : Nat)] 112) := ⟨_, rfl⟩
        have hbX : Below wr.heap.size wr X := by rw [hX]; exact ((Below.refl _ _).alloc (Nat.le_refl _) _).alloc (by simp) _
        have HX1 := Lib.hid (row_keep HWw.out.row hbX)
        have HX2 := Lib.hid (show X.heap[wr.heap.size + 1]? = some (.cells #[.int .u64 (px : Nat), .int .u32 (py : Nat), .int .u16 3, .int .u16 (nx : Nat)] 112 (0, 0)) from by rw [hX]; simpa using heap_alloc_new (wr.alloc (.cells #[.int .i64 (px : Nat), .int .i64 (py : Nat), .bool true] 39)) (.cells #[.int .u64 (px : Nat), .int .u32 (py : Nat), .int .u16 3, .int .u16 (nx : Nat)] 112))
        have HX3 := Lib.hid (row_keep HRw.out hbX)
        have HX4 := Lib.hid (HDVw.out.below hbX)
        have HBXw := Lib.hid hbX
        have HSD := Lib.hid (HSDA.out 3 nx (by rw [hmore]; rfl) hnx hnxl X (HWw.out.mem.below hbX))
        have HXE := Lib.hid hX
        clear hbX hX
        go_wp2_with fail
        rw [← HXE.out]
        refine wp_region_rec (X := QueLay11) (by kernel_rfl) (by kernel_rfl) (fun x => #[x.b0, x.b1, x.b2, x.b3, x.b4, x.b5, x.b6, x.b7, x.b8, x.b9, x.b10, x.b11, x.b12, x.b13, x.b14, x.b15, x.b16, x.b17, x.b18, x.b19, x.b20, x.b21, x.b22, x.b23, x.b24, x.b25, x.b26, x.b27]) (fun x => { tmps := List.toArray ((.pointer (some ⟨g, 0, none⟩)) :: (.agg #[.int .i64 hd0, .slice (some ⟨gd, 0, none⟩) dn dc, .int .i64 rm]) :: (.slice (some ⟨gb, 0, none⟩) n bc) :: undef :: (.pointer (some ⟨w.heap.size, 0, none⟩)) :: undef :: (.int .i64 (k : Nat)) :: (.pointer (some ⟨wr.heap.size, 0, none⟩)) :: (.pointer (some ⟨wr.heap.size + 1, 0, none⟩)) :: (.slice (some ⟨gb, 0, none⟩) n bc) :: (.int .i64 (n : Nat)) :: (.int .i64 (k : Nat)) :: (.bool true) :: (.int .i64 (k : Nat)) :: (.pointer (some ⟨gb, k * 3, none⟩)) :: (.agg #[.int .i64 (px : Nat), .int .i64 (py : Nat), .bool true]) :: (.pointer (some ⟨wr.heap.size, 0, none⟩)) :: (.int .i64 (px : Nat)) :: (.int .u64 (px : Nat)) :: (.pointer (some ⟨wr.heap.size, 1, none⟩)) :: (.int .i64 (py : Nat)) :: (.int .u32 (py : Nat)) :: (.agg #[.int .u64 (px : Nat), .int .u32 (py : Nat), .int .u16 0, .int .u16 0]) :: (.pointer (some ⟨wr.heap.size, 2, none⟩)) :: (.bool true) :: (.pointer (some ⟨wr.heap.size + 1, 2, none⟩)) :: (.int .u16 0) :: (.int .u16 2) :: (.pointer (some ⟨wr.heap.size + 1, 2, none⟩)) :: (.int .i64 (k : Nat)) :: (.int .i64 ((k : Nat) + 1)) :: (.slice (some ⟨gb, 0, none⟩) n bc) :: (.int .i64 (n : Nat)) :: (.bool true) :: (.pointer (some ⟨wr.heap.size + 1, 2, none⟩)) :: (.int .u16 2) :: (.int .u16 3) :: (.pointer (some ⟨wr.heap.size + 1, 2, none⟩)) :: (.pointer (some ⟨w.heap.size, 1, none⟩)) :: (.slice (some ⟨gd, 0, none⟩) dn dc) :: (.int .i64 (k : Nat)) :: (.int .i64 ((k : Nat) + 1)) :: (.pointer (some ⟨gd, k + 1, none⟩)) :: (.int .i64 (nx : Nat)) :: (.int .u16 (nx : Nat)) :: (.pointer (some ⟨wr.heap.size + 1, 3, none⟩)) :: x.s46 :: x.s47 :: x.s48 :: x.s49 :: x.s50 :: x.s51 :: x.s52 :: x.s53 :: x.s54 :: x.s55 :: x.s56 :: x.s57 :: x.s58 :: x.s59 :: x.s60 :: x.s61 :: x.s62 :: x.s63 :: x.s64 :: x.s65 :: x.s66 :: x.s67 :: x.s68 :: x.s69 :: x.s70 :: x.s71 :: x.s72 :: u73 :: []), defers := [] }) (fun x W => (x.b0 = true → x.s47 = .pointer (some ⟨g, 0, none⟩)) ∧ (x.b1 = true → x.s48 = .pointer (some ⟨g, 0, none⟩)) ∧ (x.b2 = true → x.s49 = .pointer (some ⟨g, 0, none⟩)) ∧ (x.b3 = true → x.s50 = .pointer (some ⟨g, 6, none⟩)) ∧ (x.b4 = true → x.s51 = .agg #[.slice ma L mc]) ∧ (x.b5 = true → x.s52 = .pointer (some ⟨g, 0, none⟩)) ∧ (x.b6 = true → x.s53 = .pointer (some ⟨g, 0, none⟩)) ∧ (x.b7 = true → x.s54 = .pointer (some ⟨g, 0, none⟩)) ∧ (x.b8 = true → x.s55 = .pointer (some ⟨g, 0, none⟩)) ∧ (x.b9 = true → x.s56 = .int .i64 (bq : Nat)) ∧ (x.b10 = true → x.s57 = .pointer (some ⟨g, 0, none⟩)) ∧ (x.b11 = true → x.s58 = .pointer (some ⟨g, 0, none⟩)) ∧ (x.b12 = true → x.s59 = .pointer (some ⟨g, 0, none⟩)) ∧ (x.b13 = true → x.s60 = .pointer (some ⟨g, 1, none⟩)) ∧ (x.b14 = true → x.s61 = .int .i64 (N : Nat)) ∧ (x.b15 = true → x.s62 = .pointer (some ⟨w.heap.size, 1, none⟩)) ∧ (x.b16 = true → x.s63 = .slice (some ⟨gd, 0, none⟩) dn dc) ∧ (x.b17 = true → x.s64 = .int .i64 (k : Nat)) ∧ (x.b18 = true → x.s65 = .pointer (some ⟨gd, k, none⟩)) ∧ (x.b19 = true → x.s66 = .int .i64 (dk : Nat)) ∧ (x.b20 = true → x.s67 = .agg #[.int .u64 (px : Nat), .int .u32 (py : Nat), .int .u16 3, .int .u16 (nx : Nat)]) ∧ (x.b22 = true → x.s46 = x.s68) ∧ (x.b24 = true → x.s70 = .int .i64 0) ∧ (x.b25 = true → x.s71 = .pointer (some ⟨g, 0, none⟩)) ∧ (x.b26 = true → x.s72 = .pointer (some ⟨g, 6, none⟩)) ∧ (x.b22 = true → x.b21 = true) ∧ (x.b27 = true → x.b4 = true ∧ x.b9 = true ∧ x.b14 = true ∧ x.b16 = true ∧ x.b19 = true ∧ x.b20 = true ∧ x.b21 = true) ∧ (x.b23 = true → x.b21 = true) ∧ (x.b27 = false → W.heap[g]? = some (.cells #[.int .i64 (bq : Nat), .int .i64 (N : Nat), .slice fa fn fc, .int .u16 (av : Nat), .int .u16 (la : Nat), .slice ca cn cc, .slice ma L mc] 74 (0, 0))) ∧ (x.b27 = false → W.heap[wr.heap.size + 1]? = some (.cells #[.int .u64 (px : Nat), .int .u32 (py : Nat), .int .u16 3, .int .u16 (nx : Nat)] 112 (0, 0))) ∧ (x.b27 = false → W.heap[w.heap.size]? = some (.cells #[.int .i64 hd0, .slice (some ⟨gd, 0, none⟩) dn dc, .int .i64 rm] 76 (0, 0))) ∧ (x.b27 = false → Below X.heap.size X W) ∧ (x.b21 = true → ∃ ra rc, x.s68 = .tuple #[.agg #[.slice ra L rc], .int .i64 0] ∧ OwnB 0 W (.slice ra L rc) l2) ∧ (x.b23 = true → ∃ ra rc, x.s69 = .agg #[.slice ra L rc] ∧ OwnB 0 W (.slice ra L rc) l2) ∧ (x.b27 = true → ∃ ra rc w6, W = w6.setCell ⟨g, 6, none⟩ (.slice ra L rc) ∧ Below X.heap.size X w6 ∧ OwnB 0 w6 (.slice ra L rc) l2)) ⟨false, false, false, false, false, false, false, false, false, false, false, false, false, false, false, false, false, false, false, false, false, false, false, false, false, false, false, false, u47, u48, u49, u50, u51, u52, u53, u54, u55, u56, u57, u58, u59, u60, u61, u62, u63, u64, u65, u66, u67, u68, u46, u69, u70, u71, u72⟩ rfl rfl ⟨(fun h => by cases h), (fun h => by cases h), (fun h => by cases h), (fun h => by cases h), (fun h => by cases h), (fun h => by cases h), (fun h => by cases h), (fun h => by cases h), (fun h => by cases h), (fun h => by cases h), (fun h => by cases h), (fun h => by cases h), (fun h => by cases h), (fun h => by cases h), (fun h => by cases h), (fun h => by cases h), (fun h => by cases h), (fun h => by cases h), (fun h => by cases h), (fun h => by cases h), (fun h => by cases h), (fun h => by cases h), (fun h => by cases h), (fun h => by cases h), (fun h => by cases h), (fun h => by cases h), (fun h => by cases h), (fun h => by cases h), (fun _ => HX1.out), (fun _ => HX2.out), (fun _ => HX3.out), (fun _ => (Below.refl _ _).drew), (fun h => by cases h), (fun h => by cases h), (fun h => by cases h)⟩ (fun _ => rfl) ?hstep ?hdone
        case hstep =>
         rintro ⟨b0, b1, b2, b3, b4, b5, b6, b7, b8, b9, b10, b11, b12, b13, b14, b15, b16, b17, b18, b19, b20, b21, b22, b23, b24, b25, b26, b27, s47, s48, s49, s50, s51, s52, s53, s54, s55, s56, s57, s58, s59, s60, s61, s62, s63, s64, s65, s66, s67, s68, s46, s69, s70, s71, s72⟩ W hI i hi
         dsimp only at hI hi ⊢
         have HI := Lib.hid hI
         clear hI
         rw [Region.ready, List.mem_filter, List.mem_range] at hi
         obtain ⟨hlt, hp⟩ := hi
         have hi7 : i = 0 ∨ i = 1 ∨ i = 2 ∨ i = 3 ∨ i = 4 ∨ i = 5 ∨ i = 6 ∨ i = 7 ∨ i = 8 ∨ i = 9 ∨ i = 10 ∨ i = 11 ∨ i = 12 ∨ i = 13 ∨ i = 14 ∨ i = 15 ∨ i = 16 ∨ i = 17 ∨ i = 18 ∨ i = 19 ∨ i = 20 ∨ i = 21 ∨ i = 22 ∨ i = 23 ∨ i = 24 ∨ i = 25 ∨ i = 26 ∨ i = 27 := by simp at hlt; omega
         clear hlt
         rcases hi7 with rfl | rfl | rfl | rfl | rfl | rfl | rfl | rfl | rfl | rfl | rfl | rfl | rfl | rfl | rfl | rfl | rfl | rfl | rfl | rfl | rfl | rfl | rfl | rfl | rfl | rfl | rfl | rfl
         all_goals simp [Region.binds] at hp
         · have hn0 : b0 = false := by revert hp; cases b0 <;> simp
           clear hp
           subst hn0
           refine inv_op (o := ⟨some 47, _, _, _, _, _⟩) rfl (fun K' hK' => ?_)
           go_simp
           obtain ⟨h0, h1, h2, h3, h4, h5, h6, h7, h8, h9, h10, h11, h12, h13, h14, h15, h16, h17, h18, h19, h20, h22, h24, h25, h26, gi22, gi27, gi23, rW0, rD0, rC0, gB, gP, gX, gF⟩ := HI.out
           exact hK'.out _ _ ⟨⟨true, b1, b2, b3, b4, b5, b6, b7, b8, b9, b10, b11, b12, b13, b14, b15, b16, b17, b18, b19, b20, b21, b22, b23, b24, b25, b26, b27, _, s48, s49, s50, s51, s52, s53, s54, s55, s56, s57, s58, s59, s60, s61, s62, s63, s64, s65, s66, s67, s68, s46, s69, s70, s71, s72⟩, rfl, rfl, (fun _ => rfl), h1, h2, h3, h4, h5, h6, h7, h8, h9, h10, h11, h12, h13, h14, h15, h16, h17, h18, h19, h20, h22, h24, h25, h26, gi22, gi27, gi23, rW0, rD0, rC0, gB, gP, gX, gF⟩
         · have hn1 : b1 = false := by revert hp; cases b1 <;> simp
           clear hp
           subst hn1
           refine inv_op (o := ⟨some 48, _, _, _, _, _⟩) rfl (fun K' hK' => ?_)
           go_simp
           obtain ⟨h0, h1, h2, h3, h4, h5, h6, h7, h8, h9, h10, h11, h12, h13, h14, h15, h16, h17, h18, h19, h20, h22, h24, h25, h26, gi22, gi27, gi23, rW0, rD0, rC0, gB, gP, gX, gF⟩ := HI.out
           exact hK'.out _ _ ⟨⟨b0, true, b2, b3, b4, b5, b6, b7, b8, b9, b10, b11, b12, b13, b14, b15, b16, b17, b18, b19, b20, b21, b22, b23, b24, b25, b26, b27, s47, _, s49, s50, s51, s52, s53, s54, s55, s56, s57, s58, s59, s60, s61, s62, s63, s64, s65, s66, s67, s68, s46, s69, s70, s71, s72⟩, rfl, rfl, h0, (fun _ => rfl), h2, h3, h4, h5, h6, h7, h8, h9, h10, h11, h12, h13, h14, h15, h16, h17, h18, h19, h20, h22, h24, h25, h26, gi22, gi27, gi23, rW0, rD0, rC0, gB, gP, gX, gF⟩
         · have hn2 : b2 = false := by revert hp; cases b2 <;> simp
           have e1 : b1 = true := by revert hp; cases b1 <;> simp
           clear hp
           obtain rfl := (HI.out.2.1) e1
           subst hn2
           refine inv_op (o := ⟨some 49, _, _, _, _, _⟩) rfl (fun K' hK' => ?_)
           go_simp
           obtain ⟨h0, h1, h2, h3, h4, h5, h6, h7, h8, h9, h10, h11, h12, h13, h14, h15, h16, h17, h18, h19, h20, h22, h24, h25, h26, gi22, gi27, gi23, rW0, rD0, rC0, gB, gP, gX, gF⟩ := HI.out
           exact hK'.out _ _ ⟨⟨b0, b1, true, b3, b4, b5, b6, b7, b8, b9, b10, b11, b12, b13, b14, b15, b16, b17, b18, b19, b20, b21, b22, b23, b24, b25, b26, b27, s47, _, _, s50, s51, s52, s53, s54, s55, s56, s57, s58, s59, s60, s61, s62, s63, s64, s65, s66, s67, s68, s46, s69, s70, s71, s72⟩, rfl, rfl, h0, h1, (fun _ => rfl), h3, h4, h5, h6, h7, h8, h9, h10, h11, h12, h13, h14, h15, h16, h17, h18, h19, h20, h22, h24, h25, h26, gi22, gi27, gi23, rW0, rD0, rC0, gB, gP, gX, gF⟩
         · have hn3 : b3 = false := by revert hp; cases b3 <;> simp
           have e2 : b2 = true := by revert hp; cases b2 <;> simp
           clear hp
           obtain rfl := (HI.out.2.2.1) e2
           subst hn3
           refine inv_op (o := ⟨some 50, _, _, _, _, _⟩) rfl (fun K' hK' => ?_)
           go_simp
           obtain ⟨h0, h1, h2, h3, h4, h5, h6, h7, h8, h9, h10, h11, h12, h13, h14, h15, h16, h17, h18, h19, h20, h22, h24, h25, h26, gi22, gi27, gi23, rW0, rD0, rC0, gB, gP, gX, gF⟩ := HI.out
           exact hK'.out _ _ ⟨⟨b0, b1, b2, true, b4, b5, b6, b7, b8, b9, b10, b11, b12, b13, b14, b15, b16, b17, b18, b19, b20, b21, b22, b23, b24, b25, b26, b27, s47, s48, _, _, s51, s52, s53, s54, s55, s56, s57, s58, s59, s60, s61, s62, s63, s64, s65, s66, s67, s68, s46, s69, s70, s71, s72⟩, rfl, rfl, h0, h1, h2, (fun _ => rfl), h4, h5, h6, h7, h8, h9, h10, h11, h12, h13, h14, h15, h16, h17, h18, h19, h20, h22, h24, h25, h26, gi22, gi27, gi23, rW0, rD0, rC0, gB, gP, gX, gF⟩
         · have hn4 : b4 = false := by revert hp; cases b4 <;> simp
           have e3 : b3 = true := by revert hp; cases b3 <;> simp
           clear hp
           obtain rfl := (HI.out.2.2.2.1) e3
           subst hn4
           refine inv_op (o := ⟨some 51, _, _, _, _, _⟩) rfl (fun K' hK' => ?_)
           have gi27 := HI.out.2.2.2.2.2.2.2.2.2.2.2.2.2.2.2.2.2.2.2.2.2.2.2.2.2.2.1
           have rW0 := HI.out.2.2.2.2.2.2.2.2.2.2.2.2.2.2.2.2.2.2.2.2.2.2.2.2.2.2.2.2.1
           have hbf27 : b27 = false := by cases b27 with | false => rfl | true => exact absurd ((gi27 rfl).1) (by decide)
           subst hbf27
           obtain ⟨hc6, _⟩ := at_cell (rW0 rfl) 6 _ rfl
           go_simp
           obtain ⟨h0, h1, h2, h3, h4, h5, h6, h7, h8, h9, h10, h11, h12, h13, h14, h15, h16, h17, h18, h19, h20, h22, h24, h25, h26, gi22, gi27, gi23, rW0, rD0, rC0, gB, gP, gX, gF⟩ := HI.out
           exact hK'.out _ _ ⟨⟨b0, b1, b2, b3, true, b5, b6, b7, b8, b9, b10, b11, b12, b13, b14, b15, b16, b17, b18, b19, b20, b21, b22, b23, b24, b25, b26, false, s47, s48, s49, _, _, s52, s53, s54, s55, s56, s57, s58, s59, s60, s61, s62, s63, s64, s65, s66, s67, s68, s46, s69, s70, s71, s72⟩, rfl, rfl, h0, h1, h2, h3, (fun _ => rfl), h5, h6, h7, h8, h9, h10, h11, h12, h13, h14, h15, h16, h17, h18, h19, h20, h22, h24, h25, h26, gi22, (fun e => by cases e), gi23, rW0, rD0, rC0, gB, gP, gX, (fun e => by cases e)⟩
         · have hn5 : b5 = false := by revert hp; cases b5 <;> simp
           clear hp
           subst hn5
           refine inv_op (o := ⟨some 52, _, _, _, _, _⟩) rfl (fun K' hK' => ?_)
           go_simp
           obtain ⟨h0, h1, h2, h3, h4, h5, h6, h7, h8, h9, h10, h11, h12, h13, h14, h15, h16, h17, h18, h19, h20, h22, h24, h25, h26, gi22, gi27, gi23, rW0, rD0, rC0, gB, gP, gX, gF⟩ := HI.out
           exact hK'.out _ _ ⟨⟨b0, b1, b2, b3, b4, true, b6, b7, b8, b9, b10, b11, b12, b13, b14, b15, b16, b17, b18, b19, b20, b21, b22, b23, b24, b25, b26, b27, s47, s48, s49, s50, s51, _, s53, s54, s55, s56, s57, s58, s59, s60, s61, s62, s63, s64, s65, s66, s67, s68, s46, s69, s70, s71, s72⟩, rfl, rfl, h0, h1, h2, h3, h4, (fun _ => rfl), h6, h7, h8, h9, h10, h11, h12, h13, h14, h15, h16, h17, h18, h19, h20, h22, h24, h25, h26, gi22, gi27, gi23, rW0, rD0, rC0, gB, gP, gX, gF⟩
         · have hn6 : b6 = false := by revert hp; cases b6 <;> simp
           have e5 : b5 = true := by revert hp; cases b5 <;> simp
           clear hp
           obtain rfl := (HI.out.2.2.2.2.2.1) e5
           subst hn6
           refine inv_op (o := ⟨some 53, _, _, _, _, _⟩) rfl (fun K' hK' => ?_)
           go_simp
           obtain ⟨h0, h1, h2, h3, h4, h5, h6, h7, h8, h9, h10, h11, h12, h13, h14, h15, h16, h17, h18, h19, h20, h22, h24, h25, h26, gi22, gi27, gi23, rW0, rD0, rC0, gB, gP, gX, gF⟩ := HI.out
           exact hK'.out _ _ ⟨⟨b0, b1, b2, b3, b4, b5, true, b7, b8, b9, b10, b11, b12, b13, b14, b15, b16, b17, b18, b19, b20, b21, b22, b23, b24, b25, b26, b27, s47, s48, s49, s50, s51, _, _, s54, s55, s56, s57, s58, s59, s60, s61, s62, s63, s64, s65, s66, s67, s68, s46, s69, s70, s71, s72⟩, rfl, rfl, h0, h1, h2, h3, h4, h5, (fun _ => rfl), h7, h8, h9, h10, h11, h12, h13, h14, h15, h16, h17, h18, h19, h20, h22, h24, h25, h26, gi22, gi27, gi23, rW0, rD0, rC0, gB, gP, gX, gF⟩
         · have hn7 : b7 = false := by revert hp; cases b7 <;> simp
           have e6 : b6 = true := by revert hp; cases b6 <;> simp
           clear hp
           obtain rfl := (HI.out.2.2.2.2.2.2.1) e6
           subst hn7
           refine inv_op (o := ⟨some 54, _, _, _, _, _⟩) rfl (fun K' hK' => ?_)
           go_simp
           obtain ⟨h0, h1, h2, h3, h4, h5, h6, h7, h8, h9, h10, h11, h12, h13, h14, h15, h16, h17, h18, h19, h20, h22, h24, h25, h26, gi22, gi27, gi23, rW0, rD0, rC0, gB, gP, gX, gF⟩ := HI.out
           exact hK'.out _ _ ⟨⟨b0, b1, b2, b3, b4, b5, b6, true, b8, b9, b10, b11, b12, b13, b14, b15, b16, b17, b18, b19, b20, b21, b22, b23, b24, b25, b26, b27, s47, s48, s49, s50, s51, s52, _, _, s55, s56, s57, s58, s59, s60, s61, s62, s63, s64, s65, s66, s67, s68, s46, s69, s70, s71, s72⟩, rfl, rfl, h0, h1, h2, h3, h4, h5, h6, (fun _ => rfl), h8, h9, h10, h11, h12, h13, h14, h15, h16, h17, h18, h19, h20, h22, h24, h25, h26, gi22, gi27, gi23, rW0, rD0, rC0, gB, gP, gX, gF⟩
         · have hn8 : b8 = false := by revert hp; cases b8 <;> simp
           have e7 : b7 = true := by revert hp; cases b7 <;> simp
           clear hp
           obtain rfl := (HI.out.2.2.2.2.2.2.2.1) e7
           subst hn8
           refine inv_op (o := ⟨some 55, _, _, _, _, _⟩) rfl (fun K' hK' => ?_)
           go_simp
           obtain ⟨h0, h1, h2, h3, h4, h5, h6, h7, h8, h9, h10, h11, h12, h13, h14, h15, h16, h17, h18, h19, h20, h22, h24, h25, h26, gi22, gi27, gi23, rW0, rD0, rC0, gB, gP, gX, gF⟩ := HI.out
           exact hK'.out _ _ ⟨⟨b0, b1, b2, b3, b4, b5, b6, b7, true, b9, b10, b11, b12, b13, b14, b15, b16, b17, b18, b19, b20, b21, b22, b23, b24, b25, b26, b27, s47, s48, s49, s50, s51, s52, s53, _, _, s56, s57, s58, s59, s60, s61, s62, s63, s64, s65, s66, s67, s68, s46, s69, s70, s71, s72⟩, rfl, rfl, h0, h1, h2, h3, h4, h5, h6, h7, (fun _ => rfl), h9, h10, h11, h12, h13, h14, h15, h16, h17, h18, h19, h20, h22, h24, h25, h26, gi22, gi27, gi23, rW0, rD0, rC0, gB, gP, gX, gF⟩
         · have hn9 : b9 = false := by revert hp; cases b9 <;> simp
           have e8 : b8 = true := by revert hp; cases b8 <;> simp
           clear hp
           obtain rfl := (HI.out.2.2.2.2.2.2.2.2.1) e8
           subst hn9
           refine inv_op (o := ⟨some 56, _, _, _, _, _⟩) rfl (fun K' hK' => ?_)
           have gi27 := HI.out.2.2.2.2.2.2.2.2.2.2.2.2.2.2.2.2.2.2.2.2.2.2.2.2.2.2.1
           have rW0 := HI.out.2.2.2.2.2.2.2.2.2.2.2.2.2.2.2.2.2.2.2.2.2.2.2.2.2.2.2.2.1
           have hbf27 : b27 = false := by cases b27 with | false => rfl | true => exact absurd ((gi27 rfl).2.1) (by decide)
           subst hbf27
           obtain ⟨hc0, _⟩ := at_cell (rW0 rfl) 0 _ rfl
           go_simp
           obtain ⟨h0, h1, h2, h3, h4, h5, h6, h7, h8, h9, h10, h11, h12, h13, h14, h15, h16, h17, h18, h19, h20, h22, h24, h25, h26, gi22, gi27, gi23, rW0, rD0, rC0, gB, gP, gX, gF⟩ := HI.out
           exact hK'.out _ _ ⟨⟨b0, b1, b2, b3, b4, b5, b6, b7, b8, true, b10, b11, b12, b13, b14, b15, b16, b17, b18, b19, b20, b21, b22, b23, b24, b25, b26, false, s47, s48, s49, s50, s51, s52, s53, s54, _, _, s57, s58, s59, s60, s61, s62, s63, s64, s65, s66, s67, s68, s46, s69, s70, s71, s72⟩, rfl, rfl, h0, h1, h2, h3, h4, h5, h6, h7, h8, (fun _ => rfl), h10, h11, h12, h13, h14, h15, h16, h17, h18, h19, h20, h22, h24, h25, h26, gi22, (fun e => by cases e), gi23, rW0, rD0, rC0, gB, gP, gX, (fun e => by cases e)⟩
         · have hn10 : b10 = false := by revert hp; cases b10 <;> simp
           clear hp
           subst hn10
           refine inv_op (o := ⟨some 57, _, _, _, _, _⟩) rfl (fun K' hK' => ?_)
           go_simp
           obtain ⟨h0, h1, h2, h3, h4, h5, h6, h7, h8, h9, h10, h11, h12, h13, h14, h15, h16, h17, h18, h19, h20, h22, h24, h25, h26, gi22, gi27, gi23, rW0, rD0, rC0, gB, gP, gX, gF⟩ := HI.out
           exact hK'.out _ _ ⟨⟨b0, b1, b2, b3, b4, b5, b6, b7, b8, b9, true, b11, b12, b13, b14, b15, b16, b17, b18, b19, b20, b21, b22, b23, b24, b25, b26, b27, s47, s48, s49, s50, s51, s52, s53, s54, s55, s56, _, s58, s59, s60, s61, s62, s63, s64, s65, s66, s67, s68, s46, s69, s70, s71, s72⟩, rfl, rfl, h0, h1, h2, h3, h4, h5, h6, h7, h8, h9, (fun _ => rfl), h11, h12, h13, h14, h15, h16, h17, h18, h19, h20, h22, h24, h25, h26, gi22, gi27, gi23, rW0, rD0, rC0, gB, gP, gX, gF⟩
         · have hn11 : b11 = false := by revert hp; cases b11 <;> simp
           have e10 : b10 = true := by revert hp; cases b10 <;> simp
           clear hp
           obtain rfl := (HI.out.2.2.2.2.2.2.2.2.2.2.1) e10
           subst hn11
           refine inv_op (o := ⟨some 58, _, _, _, _, _⟩) rfl (fun K' hK' => ?_)
           go_simp
           obtain ⟨h0, h1, h2, h3, h4, h5, h6, h7, h8, h9, h10, h11, h12, h13, h14, h15, h16, h17, h18, h19, h20, h22, h24, h25, h26, gi22, gi27, gi23, rW0, rD0, rC0, gB, gP, gX, gF⟩ := HI.out
           exact hK'.out _ _ ⟨⟨b0, b1, b2, b3, b4, b5, b6, b7, b8, b9, b10, true, b12, b13, b14, b15, b16, b17, b18, b19, b20, b21, b22, b23, b24, b25, b26, b27, s47, s48, s49, s50, s51, s52, s53, s54, s55, s56, _, _, s59, s60, s61, s62, s63, s64, s65, s66, s67, s68, s46, s69, s70, s71, s72⟩, rfl, rfl, h0, h1, h2, h3, h4, h5, h6, h7, h8, h9, h10, (fun _ => rfl), h12, h13, h14, h15, h16, h17, h18, h19, h20, h22, h24, h25, h26, gi22, gi27, gi23, rW0, rD0, rC0, gB, gP, gX, gF⟩
         · have hn12 : b12 = false := by revert hp; cases b12 <;> simp
           have e11 : b11 = true := by revert hp; cases b11 <;> simp
           clear hp
           obtain rfl := (HI.out.2.2.2.2.2.2.2.2.2.2.2.1) e11
           subst hn12
           refine inv_op (o := ⟨some 59, _, _, _, _, _⟩) rfl (fun K' hK' => ?_)
           go_simp
           obtain ⟨h0, h1, h2, h3, h4, h5, h6, h7, h8, h9, h10, h11, h12, h13, h14, h15, h16, h17, h18, h19, h20, h22, h24, h25, h26, gi22, gi27, gi23, rW0, rD0, rC0, gB, gP, gX, gF⟩ := HI.out
           exact hK'.out _ _ ⟨⟨b0, b1, b2, b3, b4, b5, b6, b7, b8, b9, b10, b11, true, b13, b14, b15, b16, b17, b18, b19, b20, b21, b22, b23, b24, b25, b26, b27, s47, s48, s49, s50, s51, s52, s53, s54, s55, s56, s57, _, _, s60, s61, s62, s63, s64, s65, s66, s67, s68, s46, s69, s70, s71, s72⟩, rfl, rfl, h0, h1, h2, h3, h4, h5, h6, h7, h8, h9, h10, h11, (fun _ => rfl), h13, h14, h15, h16, h17, h18, h19, h20, h22, h24, h25, h26, gi22, gi27, gi23, rW0, rD0, rC0, gB, gP, gX, gF⟩
         · have hn13 : b13 = false := by revert hp; cases b13 <;> simp
           have e12 : b12 = true := by revert hp; cases b12 <;> simp
           clear hp
           obtain rfl := (HI.out.2.2.2.2.2.2.2.2.2.2.2.2.1) e12
           subst hn13
           refine inv_op (o := ⟨some 60, _, _, _, _, _⟩) rfl (fun K' hK' => ?_)
           go_simp
           obtain ⟨h0, h1, h2, h3, h4, h5, h6, h7, h8, h9, h10, h11, h12, h13, h14, h15, h16, h17, h18, h19, h20, h22, h24, h25, h26, gi22, gi27, gi23, rW0, rD0, rC0, gB, gP, gX, gF⟩ := HI.out
           exact hK'.out _ _ ⟨⟨b0, b1, b2, b3, b4, b5, b6, b7, b8, b9, b10, b11, b12, true, b14, b15, b16, b17, b18, b19, b20, b21, b22, b23, b24, b25, b26, b27, s47, s48, s49, s50, s51, s52, s53, s54, s55, s56, s57, s58, _, _, s61, s62, s63, s64, s65, s66, s67, s68, s46, s69, s70, s71, s72⟩, rfl, rfl, h0, h1, h2, h3, h4, h5, h6, h7, h8, h9, h10, h11, h12, (fun _ => rfl), h14, h15, h16, h17, h18, h19, h20, h22, h24, h25, h26, gi22, gi27, gi23, rW0, rD0, rC0, gB, gP, gX, gF⟩
         · have hn14 : b14 = false := by revert hp; cases b14 <;> simp
           have e13 : b13 = true := by revert hp; cases b13 <;> simp
           clear hp
           obtain rfl := (HI.out.2.2.2.2.2.2.2.2.2.2.2.2.2.1) e13
           subst hn14
           refine inv_op (o := ⟨some 61, _, _, _, _, _⟩) rfl (fun K' hK' => ?_)
           have gi27 := HI.out.2.2.2.2.2.2.2.2.2.2.2.2.2.2.2.2.2.2.2.2.2.2.2.2.2.2.1
           have rW0 := HI.out.2.2.2.2.2.2.2.2.2.2.2.2.2.2.2.2.2.2.2.2.2.2.2.2.2.2.2.2.1
           have hbf27 : b27 = false := by cases b27 with | false => rfl | true => exact absurd ((gi27 rfl).2.2.1) (by decide)
           subst hbf27
           obtain ⟨hc1, _⟩ := at_cell (rW0 rfl) 1 _ rfl
           go_simp
           obtain ⟨h0, h1, h2, h3, h4, h5, h6, h7, h8, h9, h10, h11, h12, h13, h14, h15, h16, h17, h18, h19, h20, h22, h24, h25, h26, gi22, gi27, gi23, rW0, rD0, rC0, gB, gP, gX, gF⟩ := HI.out
           exact hK'.out _ _ ⟨⟨b0, b1, b2, b3, b4, b5, b6, b7, b8, b9, b10, b11, b12, b13, true, b15, b16, b17, b18, b19, b20, b21, b22, b23, b24, b25, b26, false, s47, s48, s49, s50, s51, s52, s53, s54, s55, s56, s57, s58, s59, _, _, s62, s63, s64, s65, s66, s67, s68, s46, s69, s70, s71, s72⟩, rfl, rfl, h0, h1, h2, h3, h4, h5, h6, h7, h8, h9, h10, h11, h12, h13, (fun _ => rfl), h15, h16, h17, h18, h19, h20, h22, h24, h25, h26, gi22, (fun e => by cases e), gi23, rW0, rD0, rC0, gB, gP, gX, (fun e => by cases e)⟩
         · have hn15 : b15 = false := by revert hp; cases b15 <;> simp
           clear hp
           subst hn15
           refine inv_op (o := ⟨some 62, _, _, _, _, _⟩) rfl (fun K' hK' => ?_)
           go_simp
           obtain ⟨h0, h1, h2, h3, h4, h5, h6, h7, h8, h9, h10, h11, h12, h13, h14, h15, h16, h17, h18, h19, h20, h22, h24, h25, h26, gi22, gi27, gi23, rW0, rD0, rC0, gB, gP, gX, gF⟩ := HI.out
           exact hK'.out _ _ ⟨⟨b0, b1, b2, b3, b4, b5, b6, b7, b8, b9, b10, b11, b12, b13, b14, true, b16, b17, b18, b19, b20, b21, b22, b23, b24, b25, b26, b27, s47, s48, s49, s50, s51, s52, s53, s54, s55, s56, s57, s58, s59, s60, s61, _, s63, s64, s65, s66, s67, s68, s46, s69, s70, s71, s72⟩, rfl, rfl, h0, h1, h2, h3, h4, h5, h6, h7, h8, h9, h10, h11, h12, h13, h14, (fun _ => rfl), h16, h17, h18, h19, h20, h22, h24, h25, h26, gi22, gi27, gi23, rW0, rD0, rC0, gB, gP, gX, gF⟩
         · have hn16 : b16 = false := by revert hp; cases b16 <;> simp
           have e15 : b15 = true := by revert hp; cases b15 <;> simp
           clear hp
           obtain rfl := (HI.out.2.2.2.2.2.2.2.2.2.2.2.2.2.2.2.1) e15
           subst hn16
           refine inv_op (o := ⟨some 63, _, _, _, _, _⟩) rfl (fun K' hK' => ?_)
           have gi27 := HI.out.2.2.2.2.2.2.2.2.2.2.2.2.2.2.2.2.2.2.2.2.2.2.2.2.2.2.1
           have rC0 := HI.out.2.2.2.2.2.2.2.2.2.2.2.2.2.2.2.2.2.2.2.2.2.2.2.2.2.2.2.2.2.2.1
           have hbf27 : b27 = false := by cases b27 with | false => rfl | true => exact absurd ((gi27 rfl).2.2.2.1) (by decide)
           subst hbf27
           obtain ⟨hc1, _⟩ := at_cell (rC0 rfl) 1 _ rfl
           go_simp
           obtain ⟨h0, h1, h2, h3, h4, h5, h6, h7, h8, h9, h10, h11, h12, h13, h14, h15, h16, h17, h18, h19, h20, h22, h24, h25, h26, gi22, gi27, gi23, rW0, rD0, rC0, gB, gP, gX, gF⟩ := HI.out
           exact hK'.out _ _ ⟨⟨b0, b1, b2, b3, b4, b5, b6, b7, b8, b9, b10, b11, b12, b13, b14, b15, true, b17, b18, b19, b20, b21, b22, b23, b24, b25, b26, false, s47, s48, s49, s50, s51, s52, s53, s54, s55, s56, s57, s58, s59, s60, s61, _, _, s64, s65, s66, s67, s68, s46, s69, s70, s71, s72⟩, rfl, rfl, h0, h1, h2, h3, h4, h5, h6, h7, h8, h9, h10, h11, h12, h13, h14, h15, (fun _ => rfl), h17, h18, h19, h20, h22, h24, h25, h26, gi22, (fun e => by cases e), gi23, rW0, rD0, rC0, gB, gP, gX, (fun e => by cases e)⟩
         · have hn17 : b17 = false := by revert hp; cases b17 <;> simp
           clear hp
           subst hn17
           refine inv_op (o := ⟨some 64, _, _, _, _, _⟩) rfl (fun K' hK' => ?_)
           go_simp
           obtain ⟨h0, h1, h2, h3, h4, h5, h6, h7, h8, h9, h10, h11, h12, h13, h14, h15, h16, h17, h18, h19, h20, h22, h24, h25, h26, gi22, gi27, gi23, rW0, rD0, rC0, gB, gP, gX, gF⟩ := HI.out
           exact hK'.out _ _ ⟨⟨b0, b1, b2, b3, b4, b5, b6, b7, b8, b9, b10, b11, b12, b13, b14, b15, b16, true, b18, b19, b20, b21, b22, b23, b24, b25, b26, b27, s47, s48, s49, s50, s51, s52, s53, s54, s55, s56, s57, s58, s59, s60, s61, s62, s63, _, s65, s66, s67, s68, s46, s69, s70, s71, s72⟩, rfl, rfl, h0, h1, h2, h3, h4, h5, h6, h7, h8, h9, h10, h11, h12, h13, h14, h15, h16, (fun _ => rfl), h18, h19, h20, h22, h24, h25, h26, gi22, gi27, gi23, rW0, rD0, rC0, gB, gP, gX, gF⟩
         · have hn18 : b18 = false := by revert hp; cases b18 <;> simp
           have e16 : b16 = true := by revert hp; cases b16 <;> simp
           have e17 : b17 = true := by revert hp; cases b17 <;> simp
           clear hp
           obtain rfl := (HI.out.2.2.2.2.2.2.2.2.2.2.2.2.2.2.2.2.1) e16
           obtain rfl := (HI.out.2.2.2.2.2.2.2.2.2.2.2.2.2.2.2.2.2.1) e17
           subst hn18
           refine inv_op (o := ⟨some 65, _, _, _, _, _⟩) rfl (fun K' hK' => ?_)
           go_simp
           obtain ⟨h0, h1, h2, h3, h4, h5, h6, h7, h8, h9, h10, h11, h12, h13, h14, h15, h16, h17, h18, h19, h20, h22, h24, h25, h26, gi22, gi27, gi23, rW0, rD0, rC0, gB, gP, gX, gF⟩ := HI.out
           exact hK'.out _ _ ⟨⟨b0, b1, b2, b3, b4, b5, b6, b7, b8, b9, b10, b11, b12, b13, b14, b15, b16, b17, true, b19, b20, b21, b22, b23, b24, b25, b26, b27, s47, s48, s49, s50, s51, s52, s53, s54, s55, s56, s57, s58, s59, s60, s61, s62, _, _, _, s66, s67, s68, s46, s69, s70, s71, s72⟩, rfl, rfl, h0, h1, h2, h3, h4, h5, h6, h7, h8, h9, h10, h11, h12, h13, h14, h15, h16, h17, (fun _ => rfl), h19, h20, h22, h24, h25, h26, gi22, gi27, gi23, rW0, rD0, rC0, gB, gP, gX, gF⟩
         · have hn19 : b19 = false := by revert hp; cases b19 <;> simp
           have e18 : b18 = true := by revert hp; cases b18 <;> simp
           clear hp
           obtain rfl := (HI.out.2.2.2.2.2.2.2.2.2.2.2.2.2.2.2.2.2.2.1) e18
           subst hn19
           refine inv_op (o := ⟨some 66, _, _, _, _, _⟩) rfl (fun K' hK' => ?_)
           have gi27 := HI.out.2.2.2.2.2.2.2.2.2.2.2.2.2.2.2.2.2.2.2.2.2.2.2.2.2.2.1
           have gB := HI.out.2.2.2.2.2.2.2.2.2.2.2.2.2.2.2.2.2.2.2.2.2.2.2.2.2.2.2.2.2.2.2.1
           have hbf27 : b27 = false := by cases b27 with | false => rfl | true => exact absurd ((gi27 rfl).2.2.2.2.1) (by decide)
           subst hbf27
           have hc7 := (HX4.out.below (gB rfl)).at k HKD.out
           rw [HDK.out] at hc7
           go_simp
           obtain ⟨h0, h1, h2, h3, h4, h5, h6, h7, h8, h9, h10, h11, h12, h13, h14, h15, h16, h17, h18, h19, h20, h22, h24, h25, h26, gi22, gi27, gi23, rW0, rD0, rC0, gB, gP, gX, gF⟩ := HI.out
           exact hK'.out _ _ ⟨⟨b0, b1, b2, b3, b4, b5, b6, b7, b8, b9, b10, b11, b12, b13, b14, b15, b16, b17, b18, true, b20, b21, b22, b23, b24, b25, b26, false, s47, s48, s49, s50, s51, s52, s53, s54, s55, s56, s57, s58, s59, s60, s61, s62, s63, s64, _, _, s67, s68, s46, s69, s70, s71, s72⟩, rfl, rfl, h0, h1, h2, h3, h4, h5, h6, h7, h8, h9, h10, h11, h12, h13, h14, h15, h16, h17, h18, (fun _ => rfl), h20, h22, h24, h25, h26, gi22, (fun e => by cases e), gi23, rW0, rD0, rC0, gB, gP, gX, (fun e => by cases e)⟩
         · have hn20 : b20 = false := by revert hp; cases b20 <;> simp
           clear hp
           subst hn20
           refine inv_op (o := ⟨some 67, _, _, _, _, _⟩) rfl (fun K' hK' => ?_)
           have gi27 := HI.out.2.2.2.2.2.2.2.2.2.2.2.2.2.2.2.2.2.2.2.2.2.2.2.2.2.2.1
           have rD0 := HI.out.2.2.2.2.2.2.2.2.2.2.2.2.2.2.2.2.2.2.2.2.2.2.2.2.2.2.2.2.2.1
           have hbf27 : b27 = false := by cases b27 with | false => rfl | true => exact absurd ((gi27 rfl).2.2.2.2.2.1) (by decide)
           subst hbf27
           obtain ⟨hc0, _⟩ := at_cell (rD0 rfl) 0 _ rfl
           obtain ⟨hc1, _⟩ := at_cell (rD0 rfl) 1 _ rfl
           obtain ⟨hc2, _⟩ := at_cell (rD0 rfl) 2 _ rfl
           obtain ⟨hc3, _⟩ := at_cell (rD0 rfl) 3 _ rfl
           go_simp
           obtain ⟨h0, h1, h2, h3, h4, h5, h6, h7, h8, h9, h10, h11, h12, h13, h14, h15, h16, h17, h18, h19, h20, h22, h24, h25, h26, gi22, gi27, gi23, rW0, rD0, rC0, gB, gP, gX, gF⟩ := HI.out
           exact hK'.out _ _ ⟨⟨b0, b1, b2, b3, b4, b5, b6, b7, b8, b9, b10, b11, b12, b13, b14, b15, b16, b17, b18, b19, true, b21, b22, b23, b24, b25, b26, false, s47, s48, s49, s50, s51, s52, s53, s54, s55, s56, s57, s58, s59, s60, s61, s62, s63, s64, s65, s66, _, s68, s46, s69, s70, s71, s72⟩, rfl, rfl, h0, h1, h2, h3, h4, h5, h6, h7, h8, h9, h10, h11, h12, h13, h14, h15, h16, h17, h18, h19, (fun _ => rfl), h22, h24, h25, h26, gi22, (fun e => by cases e), gi23, rW0, rD0, rC0, gB, gP, gX, (fun e => by cases e)⟩
         · have hn21 : b21 = false := by revert hp; cases b21 <;> simp
           have e4 : b4 = true := by revert hp; cases b4 <;> simp
           have e9 : b9 = true := by revert hp; cases b9 <;> simp
           have e14 : b14 = true := by revert hp; cases b14 <;> simp
           have e19 : b19 = true := by revert hp; cases b19 <;> simp
           have e20 : b20 = true := by revert hp; cases b20 <;> simp
           clear hp
           obtain rfl := (HI.out.2.2.2.2.1) e4
           obtain rfl := (HI.out.2.2.2.2.2.2.2.2.2.1) e9
           obtain rfl := (HI.out.2.2.2.2.2.2.2.2.2.2.2.2.2.2.1) e14
           obtain rfl := (HI.out.2.2.2.2.2.2.2.2.2.2.2.2.2.2.2.2.2.2.2.1) e19
           obtain rfl := (HI.out.2.2.2.2.2.2.2.2.2.2.2.2.2.2.2.2.2.2.2.2.1) e20
           subst hn21
           refine inv_op (o := ⟨some 68, _, _, _, _, _⟩) rfl (fun K' hK' => ?_)
           have gi22 := HI.out.2.2.2.2.2.2.2.2.2.2.2.2.2.2.2.2.2.2.2.2.2.2.2.2.2.1
           have gi27 := HI.out.2.2.2.2.2.2.2.2.2.2.2.2.2.2.2.2.2.2.2.2.2.2.2.2.2.2.1
           have gi23 := HI.out.2.2.2.2.2.2.2.2.2.2.2.2.2.2.2.2.2.2.2.2.2.2.2.2.2.2.2.1
           have gB := HI.out.2.2.2.2.2.2.2.2.2.2.2.2.2.2.2.2.2.2.2.2.2.2.2.2.2.2.2.2.2.2.2.1
           have hbf22 : b22 = false := by cases b22 with | false => rfl | true => exact absurd ((gi22 rfl)) (by decide)
           subst hbf22
           have hbf27 : b27 = false := by cases b27 with | false => rfl | true => exact absurd ((gi27 rfl).2.2.2.2.2.2) (by decide)
           subst hbf27
           have hbf23 : b23 = false := by cases b23 with | false => rfl | true => exact absurd ((gi23 rfl)) (by decide)
           subst hbf23
           go_simp
           refine (HSD.out W (gB rfl)).mono ?_
           rintro e w2 ⟨ra, rc, rfl, hr, bn⟩
           obtain ⟨h0, h1, h2, h3, h4, h5, h6, h7, h8, h9, h10, h11, h12, h13, h14, h15, h16, h17, h18, h19, h20, h22, h24, h25, h26, gi22, gi27, gi23, rW0, rD0, rC0, gB, gP, gX, gF⟩ := HI.out
           exact hK'.out _ _ ⟨⟨b0, b1, b2, b3, b4, b5, b6, b7, b8, b9, b10, b11, b12, b13, b14, b15, b16, b17, b18, b19, b20, true, false, false, b24, b25, b26, false, s47, s48, s49, s50, _, s52, s53, s54, s55, _, s57, s58, s59, s60, _, s62, s63, s64, s65, _, _, _, s46, s69, s70, s71, s72⟩, rfl, rfl, h0, h1, h2, h3, h4, h5, h6, h7, h8, h9, h10, h11, h12, h13, h14, h15, h16, h17, h18, h19, h20, (fun e => by cases ((gi22 e))), h24, h25, h26, (fun e => by cases e), (fun e => by cases e), (fun e => by cases e), (fun e => row_keep (rW0 e) bn), (fun e => row_keep (rD0 e) bn), (fun e => row_keep (rC0 e) bn), (fun e => (gB e).trans (bn.mono (gB e).size)), (fun _ => ⟨ra, rc, rfl, hr⟩), (fun e => by cases e), (fun e => by cases e)⟩
         · have hn22 : b22 = false := by revert hp; cases b22 <;> simp
           have e21 : b21 = true := by revert hp; cases b21 <;> simp
           clear hp
           subst hn22
           refine inv_op (o := ⟨some 46, _, _, _, _, _⟩) rfl (fun K' hK' => ?_)
           go_simp
           obtain ⟨h0, h1, h2, h3, h4, h5, h6, h7, h8, h9, h10, h11, h12, h13, h14, h15, h16, h17, h18, h19, h20, h22, h24, h25, h26, gi22, gi27, gi23, rW0, rD0, rC0, gB, gP, gX, gF⟩ := HI.out
           exact hK'.out _ _ ⟨⟨b0, b1, b2, b3, b4, b5, b6, b7, b8, b9, b10, b11, b12, b13, b14, b15, b16, b17, b18, b19, b20, b21, true, b23, b24, b25, b26, b27, s47, s48, s49, s50, s51, s52, s53, s54, s55, s56, s57, s58, s59, s60, s61, s62, s63, s64, s65, s66, s67, _, _, s69, s70, s71, s72⟩, rfl, rfl, h0, h1, h2, h3, h4, h5, h6, h7, h8, h9, h10, h11, h12, h13, h14, h15, h16, h17, h18, h19, h20, (fun _ => rfl), h24, h25, h26, (fun _ => e21), gi27, gi23, rW0, rD0, rC0, gB, gP, gX, gF⟩
         · have hn23 : b23 = false := by revert hp; cases b23 <;> simp
           have e22 : b22 = true := by revert hp; cases b22 <;> simp
           clear hp
           obtain rfl := (HI.out.2.2.2.2.2.2.2.2.2.2.2.2.2.2.2.2.2.2.2.2.2.1) e22
           subst hn23
           refine inv_op (o := ⟨some 69, _, _, _, _, _⟩) rfl (fun K' hK' => ?_)
           have gi22 := HI.out.2.2.2.2.2.2.2.2.2.2.2.2.2.2.2.2.2.2.2.2.2.2.2.2.2.1
           have gP := HI.out.2.2.2.2.2.2.2.2.2.2.2.2.2.2.2.2.2.2.2.2.2.2.2.2.2.2.2.2.2.2.2.2.1
           obtain ⟨ra, rc, rfl, hp⟩ := gP ((gi22 e22))
           go_simp
           obtain ⟨h0, h1, h2, h3, h4, h5, h6, h7, h8, h9, h10, h11, h12, h13, h14, h15, h16, h17, h18, h19, h20, h22, h24, h25, h26, gi22, gi27, gi23, rW0, rD0, rC0, gB, gP, gX, gF⟩ := HI.out
           exact hK'.out _ _ ⟨⟨b0, b1, b2, b3, b4, b5, b6, b7, b8, b9, b10, b11, b12, b13, b14, b15, b16, b17, b18, b19, b20, b21, b22, true, b24, b25, b26, b27, s47, s48, s49, s50, s51, s52, s53, s54, s55, s56, s57, s58, s59, s60, s61, s62, s63, s64, s65, s66, s67, _, _, _, s70, s71, s72⟩, rfl, rfl, h0, h1, h2, h3, h4, h5, h6, h7, h8, h9, h10, h11, h12, h13, h14, h15, h16, h17, h18, h19, h20, h22, h24, h25, h26, gi22, gi27, (fun _ => (gi22 e22)), rW0, rD0, rC0, gB, (fun _ => ⟨ra, rc, rfl, hp⟩), (fun _ => ⟨ra, rc, rfl, hp⟩), gF⟩
         · have hn24 : b24 = false := by revert hp; cases b24 <;> simp
           have e22 : b22 = true := by revert hp; cases b22 <;> simp
           clear hp
           obtain rfl := (HI.out.2.2.2.2.2.2.2.2.2.2.2.2.2.2.2.2.2.2.2.2.2.1) e22
           subst hn24
           refine inv_op (o := ⟨some 70, _, _, _, _, _⟩) rfl (fun K' hK' => ?_)
           have gi22 := HI.out.2.2.2.2.2.2.2.2.2.2.2.2.2.2.2.2.2.2.2.2.2.2.2.2.2.1
           have gP := HI.out.2.2.2.2.2.2.2.2.2.2.2.2.2.2.2.2.2.2.2.2.2.2.2.2.2.2.2.2.2.2.2.2.1
           obtain ⟨ra, rc, rfl, hp⟩ := gP ((gi22 e22))
           go_simp
           obtain ⟨h0, h1, h2, h3, h4, h5, h6, h7, h8, h9, h10, h11, h12, h13, h14, h15, h16, h17, h18, h19, h20, h22, h24, h25, h26, gi22, gi27, gi23, rW0, rD0, rC0, gB, gP, gX, gF⟩ := HI.out
           exact hK'.out _ _ ⟨⟨b0, b1, b2, b3, b4, b5, b6, b7, b8, b9, b10, b11, b12, b13, b14, b15, b16, b17, b18, b19, b20, b21, b22, b23, true, b25, b26, b27, s47, s48, s49, s50, s51, s52, s53, s54, s55, s56, s57, s58, s59, s60, s61, s62, s63, s64, s65, s66, s67, _, _, s69, _, s71, s72⟩, rfl, rfl, h0, h1, h2, h3, h4, h5, h6, h7, h8, h9, h10, h11, h12, h13, h14, h15, h16, h17, h18, h19, h20, h22, (fun _ => rfl), h25, h26, gi22, gi27, gi23, rW0, rD0, rC0, gB, (fun _ => ⟨ra, rc, rfl, hp⟩), gX, gF⟩
         · have hn25 : b25 = false := by revert hp; cases b25 <;> simp
           have e0 : b0 = true := by revert hp; cases b0 <;> simp
           clear hp
           obtain rfl := (HI.out.1) e0
           subst hn25
           refine inv_op (o := ⟨some 71, _, _, _, _, _⟩) rfl (fun K' hK' => ?_)
           go_simp
           obtain ⟨h0, h1, h2, h3, h4, h5, h6, h7, h8, h9, h10, h11, h12, h13, h14, h15, h16, h17, h18, h19, h20, h22, h24, h25, h26, gi22, gi27, gi23, rW0, rD0, rC0, gB, gP, gX, gF⟩ := HI.out
           exact hK'.out _ _ ⟨⟨b0, b1, b2, b3, b4, b5, b6, b7, b8, b9, b10, b11, b12, b13, b14, b15, b16, b17, b18, b19, b20, b21, b22, b23, b24, true, b26, b27, _, s48, s49, s50, s51, s52, s53, s54, s55, s56, s57, s58, s59, s60, s61, s62, s63, s64, s65, s66, s67, s68, s46, s69, s70, _, s72⟩, rfl, rfl, h0, h1, h2, h3, h4, h5, h6, h7, h8, h9, h10, h11, h12, h13, h14, h15, h16, h17, h18, h19, h20, h22, h24, (fun _ => rfl), h26, gi22, gi27, gi23, rW0, rD0, rC0, gB, gP, gX, gF⟩
         · have hn26 : b26 = false := by revert hp; cases b26 <;> simp
           have e25 : b25 = true := by revert hp; cases b25 <;> simp
           clear hp
           obtain rfl := (HI.out.2.2.2.2.2.2.2.2.2.2.2.2.2.2.2.2.2.2.2.2.2.2.2.1) e25
           subst hn26
           refine inv_op (o := ⟨some 72, _, _, _, _, _⟩) rfl (fun K' hK' => ?_)
           go_simp
           obtain ⟨h0, h1, h2, h3, h4, h5, h6, h7, h8, h9, h10, h11, h12, h13, h14, h15, h16, h17, h18, h19, h20, h22, h24, h25, h26, gi22, gi27, gi23, rW0, rD0, rC0, gB, gP, gX, gF⟩ := HI.out
           exact hK'.out _ _ ⟨⟨b0, b1, b2, b3, b4, b5, b6, b7, b8, b9, b10, b11, b12, b13, b14, b15, b16, b17, b18, b19, b20, b21, b22, b23, b24, b25, true, b27, s47, s48, s49, s50, s51, s52, s53, s54, s55, s56, s57, s58, s59, s60, s61, s62, s63, s64, s65, s66, s67, s68, s46, s69, s70, _, _⟩, rfl, rfl, h0, h1, h2, h3, h4, h5, h6, h7, h8, h9, h10, h11, h12, h13, h14, h15, h16, h17, h18, h19, h20, h22, h24, h25, (fun _ => rfl), gi22, gi27, gi23, rW0, rD0, rC0, gB, gP, gX, gF⟩
         · have hn27 : b27 = false := by revert hp; cases b27 <;> simp
           have e23 : b23 = true := by revert hp; cases b23 <;> simp
           have e26 : b26 = true := by revert hp; cases b26 <;> simp
           have e21 : b21 = true := by revert hp; cases b21 <;> simp
           have e4 : b4 = true := by revert hp; cases b4 <;> simp
           have e9 : b9 = true := by revert hp; cases b9 <;> simp
           have e14 : b14 = true := by revert hp; cases b14 <;> simp
           have e16 : b16 = true := by revert hp; cases b16 <;> simp
           have e19 : b19 = true := by revert hp; cases b19 <;> simp
           have e20 : b20 = true := by revert hp; cases b20 <;> simp
           clear hp
           obtain rfl := (HI.out.2.2.2.2.2.2.2.2.2.2.2.2.2.2.2.2.2.2.2.2.2.2.2.2.1) e26
           subst hn27
           refine inv_op (o := ⟨none, _, _, _, _, _⟩) rfl (fun K' hK' => ?_)
           have rW0 := HI.out.2.2.2.2.2.2.2.2.2.2.2.2.2.2.2.2.2.2.2.2.2.2.2.2.2.2.2.2.1
           have gB := HI.out.2.2.2.2.2.2.2.2.2.2.2.2.2.2.2.2.2.2.2.2.2.2.2.2.2.2.2.2.2.2.2.1
           have gX := HI.out.2.2.2.2.2.2.2.2.2.2.2.2.2.2.2.2.2.2.2.2.2.2.2.2.2.2.2.2.2.2.2.2.2.1
           obtain ⟨ra, rc, rfl, hx⟩ := gX e23
           have hrow := rW0 rfl
           have hgb := gB rfl
           obtain ⟨hc, hz⟩ := at_cell hrow 6 _ rfl
           have hlx := (Array.getElem?_eq_some_iff.1 hrow).1
           go_simp
           obtain ⟨h0, h1, h2, h3, h4, h5, h6, h7, h8, h9, h10, h11, h12, h13, h14, h15, h16, h17, h18, h19, h20, h22, h24, h25, h26, gi22, gi27, gi23, rW0, rD0, rC0, gB, gP, gX, gF⟩ := HI.out
           exact hK'.out _ _ ⟨⟨b0, b1, b2, b3, b4, b5, b6, b7, b8, b9, b10, b11, b12, b13, b14, b15, b16, b17, b18, b19, b20, b21, b22, b23, b24, b25, b26, true, s47, s48, s49, s50, s51, s52, s53, s54, s55, s56, s57, s58, s59, s60, s61, s62, s63, s64, s65, s66, s67, s68, s46, _, s70, s71, _⟩, rfl, rfl, h0, h1, h2, h3, h4, h5, h6, h7, h8, h9, h10, h11, h12, h13, h14, h15, h16, h17, h18, h19, h20, h22, h24, h25, h26, gi22, (fun _ => ⟨e4, e9, e14, e16, e19, e20, e21⟩), gi23, (fun e => by cases e), (fun e => by cases e), (fun e => by cases e), (fun e => by cases e), (fun e => by obtain ⟨y0, y1, h1, h2⟩ := gP e; exact ⟨y0, y1, h1, h2.stay hrow (by decide) 6 _⟩), (fun _ => ⟨ra, rc, rfl, hx.stay hrow (by decide) 6 _⟩), (fun _ => ⟨ra, rc, W, rfl, hgb, hx⟩)⟩
        case hdone =>
         rintro ⟨b0, b1, b2, b3, b4, b5, b6, b7, b8, b9, b10, b11, b12, b13, b14, b15, b16, b17, b18, b19, b20, b21, b22, b23, b24, b25, b26, b27, s47, s48, s49, s50, s51, s52, s53, s54, s55, s56, s57, s58, s59, s60, s61, s62, s63, s64, s65, s66, s67, s68, s46, s69, s70, s71, s72⟩ W hI hall
         dsimp only at hI hall ⊢
         have HI := Lib.hid hI
         clear hI
         obtain rfl : b0 = true := hall 0 (by decide)
         obtain rfl : b1 = true := hall 1 (by decide)
         obtain rfl : b2 = true := hall 2 (by decide)
         obtain rfl : b3 = true := hall 3 (by decide)
         obtain rfl : b4 = true := hall 4 (by decide)
         obtain rfl : b5 = true := hall 5 (by decide)
         obtain rfl : b6 = true := hall 6 (by decide)
         obtain rfl : b7 = true := hall 7 (by decide)
         obtain rfl : b8 = true := hall 8 (by decide)
         obtain rfl : b9 = true := hall 9 (by decide)
         obtain rfl : b10 = true := hall 10 (by decide)
         obtain rfl : b11 = true := hall 11 (by decide)
         obtain rfl : b12 = true := hall 12 (by decide)
         obtain rfl : b13 = true := hall 13 (by decide)
         obtain rfl : b14 = true := hall 14 (by decide)
         obtain rfl : b15 = true := hall 15 (by decide)
         obtain rfl : b16 = true := hall 16 (by decide)
         obtain rfl : b17 = true := hall 17 (by decide)
         obtain rfl : b18 = true := hall 18 (by decide)
         obtain rfl : b19 = true := hall 19 (by decide)
         obtain rfl : b20 = true := hall 20 (by decide)
         obtain rfl : b21 = true := hall 21 (by decide)
         obtain rfl : b22 = true := hall 22 (by decide)
         obtain rfl : b23 = true := hall 23 (by decide)
         obtain rfl : b24 = true := hall 24 (by decide)
         obtain rfl : b25 = true := hall 25 (by decide)
         obtain rfl : b26 = true := hall 26 (by decide)
         obtain rfl : b27 = true := hall 27 (by decide)
         have gF := HI.out.2.2.2.2.2.2.2.2.2.2.2.2.2.2.2.2.2.2.2.2.2.2.2.2.2.2.2.2.2.2.2.2.2.2
         clear HI hall
         obtain ⟨ra, rc, w6, rfl, hb6, ho6⟩ := gF rfl
         have hw6 := ((HWw.out.below HBXw.out).below hb6).setM ho6
         have hr6 := row_keep (row_keep HRw.out HBXw.out) hb6
         have hbb := HBXw.out.trans (hb6.mono HBXw.out.size)
         have HW6 := Lib.hid hw6
         have HR6 := Lib.hid (one_other hr6 ⟨g, 6, none⟩ (.slice ra L rc) (blocks_ne hr6 (row_keep HWw.out.row hbb) (fun e => tChW e.symm)))
         have HS6 := Lib.hid ((HSw.out.trans (Spare.of_below hbb (Nat.le_trans HBB.out HSw.out.size) _)).trans (Spare.set (i := 6) (u := .slice ra L rc) (row_keep HWw.out.row hbb) rfl HWw.out.lo))
         clear gF hb6 ho6 hw6 hr6 hbb
         go_wp2
         go_roundw
         case rel => exact ⟨k + 1, ra, rc, by omega, by go_num, by rw [HL2.out]; exact HW6.out, HR6.out, HS6.out⟩
         case measure => simp [intOf]; omega
      · have hmore : moreAt bs k = false := by unfold moreAt; rw [← HN.out]; exact decide_eq_false hm
        have hnx0 : nextOf ds bs k = 0 := by unfold nextOf; rw [← HN.out, if_neg hm]
        have hb3 : decide (((k : Nat) : Int) + 1 < ((n : Nat) : Int)) = false := decide_eq_false (by omega)
        obtain ⟨X, hX⟩ : ∃ X, X = (wr.alloc (.cells #[.int .i64 (px : Nat), .int .i64 (py : Nat), .bool true] 39)).alloc (.cells #[.int .u64 (px : Nat), .int .u32 (py : Nat), .int .u16 2, .int .u16 0] 112) := ⟨_, rfl⟩
        have hbX : Below wr.heap.size wr X := by rw [hX]; exact ((Below.refl _ _).alloc (Nat.le_refl _) _).alloc (by simp) _
        have HX1 := Lib.hid (row_keep HWw.out.row hbX)
        have HX2 := Lib.hid (show X.heap[wr.heap.size + 1]? = some (.cells #[.int .u64 (px : Nat), .int .u32 (py : Nat), .int .u16 2, .int .u16 0] 112 (0, 0)) from by rw [hX]; simpa using heap_alloc_new (wr.alloc (.cells #[.int .i64 (px : Nat), .int .i64 (py : Nat), .bool true] 39)) (.cells #[.int .u64 (px : Nat), .int .u32 (py : Nat), .int .u16 2, .int .u16 0] 112))
        have HX3 := Lib.hid (row_keep HRw.out hbX)
        have HX4 := Lib.hid (HDVw.out.below hbX)
        have HBXw := Lib.hid hbX
        have HSD := Lib.hid (HSDA.out 2 0 (by rw [hmore]; rfl) hnx0 (by decide) X (HWw.out.mem.below hbX))
        have HXE := Lib.hid hX
        clear hbX hX
        go_wp2_with fail
        rw [← HXE.out]
        refine wp_region_rec (X := QueLay10) (by kernel_rfl) (by kernel_rfl) (fun x => #[x.b0, x.b1, x.b2, x.b3, x.b4, x.b5, x.b6, x.b7, x.b8, x.b9, x.b10, x.b11, x.b12, x.b13, x.b14, x.b15, x.b16, x.b17, x.b18, x.b19, x.b20, x.b21, x.b22, x.b23, x.b24, x.b25, x.b26, x.b27]) (fun x => { tmps := List.toArray ((.pointer (some ⟨g, 0, none⟩)) :: (.agg #[.int .i64 hd0, .slice (some ⟨gd, 0, none⟩) dn dc, .int .i64 rm]) :: (.slice (some ⟨gb, 0, none⟩) n bc) :: undef :: (.pointer (some ⟨w.heap.size, 0, none⟩)) :: undef :: (.int .i64 (k : Nat)) :: (.pointer (some ⟨wr.heap.size, 0, none⟩)) :: (.pointer (some ⟨wr.heap.size + 1, 0, none⟩)) :: (.slice (some ⟨gb, 0, none⟩) n bc) :: (.int .i64 (n : Nat)) :: (.int .i64 (k : Nat)) :: (.bool true) :: (.int .i64 (k : Nat)) :: (.pointer (some ⟨gb, k * 3, none⟩)) :: (.agg #[.int .i64 (px : Nat), .int .i64 (py : Nat), .bool true]) :: (.pointer (some ⟨wr.heap.size, 0, none⟩)) :: (.int .i64 (px : Nat)) :: (.int .u64 (px : Nat)) :: (.pointer (some ⟨wr.heap.size, 1, none⟩)) :: (.int .i64 (py : Nat)) :: (.int .u32 (py : Nat)) :: (.agg #[.int .u64 (px : Nat), .int .u32 (py : Nat), .int .u16 0, .int .u16 0]) :: (.pointer (some ⟨wr.heap.size, 2, none⟩)) :: (.bool true) :: (.pointer (some ⟨wr.heap.size + 1, 2, none⟩)) :: (.int .u16 0) :: (.int .u16 2) :: (.pointer (some ⟨wr.heap.size + 1, 2, none⟩)) :: (.int .i64 (k : Nat)) :: (.int .i64 ((k : Nat) + 1)) :: (.slice (some ⟨gb, 0, none⟩) n bc) :: (.int .i64 (n : Nat)) :: (.bool false) :: u34 :: u35 :: u36 :: u37 :: u38 :: u39 :: u40 :: u41 :: u42 :: u43 :: u44 :: u45 :: x.s46 :: x.s47 :: x.s48 :: x.s49 :: x.s50 :: x.s51 :: x.s52 :: x.s53 :: x.s54 :: x.s55 :: x.s56 :: x.s57 :: x.s58 :: x.s59 :: x.s60 :: x.s61 :: x.s62 :: x.s63 :: x.s64 :: x.s65 :: x.s66 :: x.s67 :: x.s68 :: x.s69 :: x.s70 :: x.s71 :: x.s72 :: u73 :: []), defers := [] }) (fun x W => (x.b0 = true → x.s47 = .pointer (some ⟨g, 0, none⟩)) ∧ (x.b1 = true → x.s48 = .pointer (some ⟨g, 0, none⟩)) ∧ (x.b2 = true → x.s49 = .pointer (some ⟨g, 0, none⟩)) ∧ (x.b3 = true → x.s50 = .pointer (some ⟨g, 6, none⟩)) ∧ (x.b4 = true → x.s51 = .agg #[.slice ma L mc]) ∧ (x.b5 = true → x.s52 = .pointer (some ⟨g, 0, none⟩)) ∧ (x.b6 = true → x.s53 = .pointer (some ⟨g, 0, none⟩)) ∧ (x.b7 = true → x.s54 = .pointer (some ⟨g, 0, none⟩)) ∧ (x.b8 = true → x.s55 = .pointer (some ⟨g, 0, none⟩)) ∧ (x.b9 = true → x.s56 = .int .i64 (bq : Nat)) ∧ (x.b10 = true → x.s57 = .pointer (some ⟨g, 0, none⟩)) ∧ (x.b11 = true → x.s58 = .pointer (some ⟨g, 0, none⟩)) ∧ (x.b12 = true → x.s59 = .pointer (some ⟨g, 0, none⟩)) ∧ (x.b13 = true → x.s60 = .pointer (some ⟨g, 1, none⟩)) ∧ (x.b14 = true → x.s61 = .int .i64 (N : Nat)) ∧ (x.b15 = true → x.s62 = .pointer (some ⟨w.heap.size, 1, none⟩)) ∧ (x.b16 = true → x.s63 = .slice (some ⟨gd, 0, none⟩) dn dc) ∧ (x.b17 = true → x.s64 = .int .i64 (k : Nat)) ∧ (x.b18 = true → x.s65 = .pointer (some ⟨gd, k, none⟩)) ∧ (x.b19 = true → x.s66 = .int .i64 (dk : Nat)) ∧ (x.b20 = true → x.s67 = .agg #[.int .u64 (px : Nat), .int .u32 (py : Nat), .int .u16 2, .int .u16 0]) ∧ (x.b22 = true → x.s46 = x.s68) ∧ (x.b24 = true → x.s70 = .int .i64 0) ∧ (x.b25 = true → x.s71 = .pointer (some ⟨g, 0, none⟩)) ∧ (x.b26 = true → x.s72 = .pointer (some ⟨g, 6, none⟩)) ∧ (x.b22 = true → x.b21 = true) ∧ (x.b27 = true → x.b4 = true ∧ x.b9 = true ∧ x.b14 = true ∧ x.b16 = true ∧ x.b19 = true ∧ x.b20 = true ∧ x.b21 = true) ∧ (x.b23 = true → x.b21 = true) ∧ (x.b27 = false → W.heap[g]? = some (.cells #[.int .i64 (bq : Nat), .int .i64 (N : Nat), .slice fa fn fc, .int .u16 (av : Nat), .int .u16 (la : Nat), .slice ca cn cc, .slice ma L mc] 74 (0, 0))) ∧ (x.b27 = false → W.heap[wr.heap.size + 1]? = some (.cells #[.int .u64 (px : Nat), .int .u32 (py : Nat), .int .u16 2, .int .u16 0] 112 (0, 0))) ∧ (x.b27 = false → W.heap[w.heap.size]? = some (.cells #[.int .i64 hd0, .slice (some ⟨gd, 0, none⟩) dn dc, .int .i64 rm] 76 (0, 0))) ∧ (x.b27 = false → Below X.heap.size X W) ∧ (x.b21 = true → ∃ ra rc, x.s68 = .tuple #[.agg #[.slice ra L rc], .int .i64 0] ∧ OwnB 0 W (.slice ra L rc) l2) ∧ (x.b23 = true → ∃ ra rc, x.s69 = .agg #[.slice ra L rc] ∧ OwnB 0 W (.slice ra L rc) l2) ∧ (x.b27 = true → ∃ ra rc w6, W = w6.setCell ⟨g, 6, none⟩ (.slice ra L rc) ∧ Below X.heap.size X w6 ∧ OwnB 0 w6 (.slice ra L rc) l2)) ⟨false, false, false, false, false, false, false, false, false, false, false, false, false, false, false, false, false, false, false, false, false, false, false, false, false, false, false, false, u47, u48, u49, u50, u51, u52, u53, u54, u55, u56, u57, u58, u59, u60, u61, u62, u63, u64, u65, u66, u67, u68, u46, u69, u70, u71, u72⟩ rfl rfl ⟨(fun h => by cases h), (fun h => by cases h), (fun h => by cases h), (fun h => by cases h), (fun h => by cases h), (fun h => by cases h), (fun h => by cases h), (fun h => by cases h), (fun h => by cases h), (fun h => by cases h), (fun h => by cases h), (fun h => by cases h), (fun h => by cases h), (fun h => by cases h), (fun h => by cases h), (fun h => by cases h), (fun h => by cases h), (fun h => by cases h), (fun h => by cases h), (fun h => by cases h), (fun h => by cases h), (fun h => by cases h), (fun h => by cases h), (fun h => by cases h), (fun h => by cases h), (fun h => by cases h), (fun h => by cases h), (fun h => by cases h), (fun _ => HX1.out), (fun _ => HX2.out), (fun _ => HX3.out), (fun _ => (Below.refl _ _).drew), (fun h => by cases h), (fun h => by cases h), (fun h => by cases h)⟩ (fun _ => rfl) ?hstep ?hdone
        case hstep =>
         rintro ⟨b0, b1, b2, b3, b4, b5, b6, b7, b8, b9, b10, b11, b12, b13, b14, b15, b16, b17, b18, b19, b20, b21, b22, b23, b24, b25, b26, b27, s47, s48, s49, s50, s51, s52, s53, s54, s55, s56, s57, s58, s59, s60, s61, s62, s63, s64, s65, s66, s67, s68, s46, s69, s70, s71, s72⟩ W hI i hi
         dsimp only at hI hi ⊢
         have HI := Lib.hid hI
         clear hI
         rw [Region.ready, List.mem_filter, List.mem_range] at hi
         obtain ⟨hlt, hp⟩ := hi
         have hi7 : i = 0 ∨ i = 1 ∨ i = 2 ∨ i = 3 ∨ i = 4 ∨ i = 5 ∨ i = 6 ∨ i = 7 ∨ i = 8 ∨ i = 9 ∨ i = 10 ∨ i = 11 ∨ i = 12 ∨ i = 13 ∨ i = 14 ∨ i = 15 ∨ i = 16 ∨ i = 17 ∨ i = 18 ∨ i = 19 ∨ i = 20 ∨ i = 21 ∨ i = 22 ∨ i = 23 ∨ i = 24 ∨ i = 25 ∨ i = 26 ∨ i = 27 := by simp at hlt; omega
         clear hlt
         rcases hi7 with rfl | rfl | rfl | rfl | rfl | rfl | rfl | rfl | rfl | rfl | rfl | rfl | rfl | rfl | rfl | rfl | rfl | rfl | rfl | rfl | rfl | rfl | rfl | rfl | rfl | rfl | rfl | rfl
         all_goals simp [Region.binds] at hp
         · have hn0 : b0 = false := by revert hp; cases b0 <;> simp
           clear hp
           subst hn0
           refine inv_op (o := ⟨some 47, _, _, _, _, _⟩) rfl (fun K' hK' => ?_)
           go_simp
           obtain ⟨h0, h1, h2, h3, h4, h5, h6, h7, h8, h9, h10, h11, h12, h13, h14, h15, h16, h17, h18, h19, h20, h22, h24, h25, h26, gi22, gi27, gi23, rW0, rD0, rC0, gB, gP, gX, gF⟩ := HI.out
           exact hK'.out _ _ ⟨⟨true, b1, b2, b3, b4, b5, b6, b7, b8, b9, b10, b11, b12, b13, b14, b15, b16, b17, b18, b19, b20, b21, b22, b23, b24, b25, b26, b27, _, s48, s49, s50, s51, s52, s53, s54, s55, s56, s57, s58, s59, s60, s61, s62, s63, s64, s65, s66, s67, s68, s46, s69, s70, s71, s72⟩, rfl, rfl, (fun _ => rfl), h1, h2, h3, h4, h5, h6, h7, h8, h9, h10, h11, h12, h13, h14, h15, h16, h17, h18, h19, h20, h22, h24, h25, h26, gi22, gi27, gi23, rW0, rD0, rC0, gB, gP, gX, gF⟩
         · have hn1 : b1 = false := by revert hp; cases b1 <;> simp
           clear hp
           subst hn1
           refine inv_op (o := ⟨some 48, _, _, _, _, _⟩) rfl (fun K' hK' => ?_)
           go_simp
           obtain ⟨h0, h1, h2, h3, h4, h5, h6, h7, h8, h9, h10, h11, h12, h13, h14, h15, h16, h17, h18, h19, h20, h22, h24, h25, h26, gi22, gi27, gi23, rW0, rD0, rC0, gB, gP, gX, gF⟩ := HI.out
           exact hK'.out _ _ ⟨⟨b0, true, b2, b3, b4, b5, b6, b7, b8, b9, b10, b11, b12, b13, b14, b15, b16, b17, b18, b19, b20, b21, b22, b23, b24, b25, b26, b27, s47, _, s49, s50, s51, s52, s53, s54, s55, s56, s57, s58, s59, s60, s61, s62, s63, s64, s65, s66, s67, s68, s46, s69, s70, s71, s72⟩, rfl, rfl, h0, (fun _ => rfl), h2, h3, h4, h5, h6, h7, h8, h9, h10, h11, h12, h13, h14, h15, h16, h17, h18, h19, h20, h22, h24, h25, h26, gi22, gi27, gi23, rW0, rD0, rC0, gB, gP, gX, gF⟩
         · have hn2 : b2 = false := by revert hp; cases b2 <;> simp
           have e1 : b1 = true := by revert hp; cases b1 <;> simp
           clear hp
           obtain rfl := (HI.out.2.1) e1
           subst hn2
           refine inv_op (o := ⟨some 49, _, _, _, _, _⟩) rfl (fun K' hK' => ?_)
           go_simp
           obtain ⟨h0, h1, h2, h3, h4, h5, h6, h7, h8, h9, h10, h11, h12, h13, h14, h15, h16, h17, h18, h19, h20, h22, h24, h25, h26, gi22, gi27, gi23, rW0, rD0, rC0, gB, gP, gX, gF⟩ := HI.out
           exact hK'.out _ _ ⟨⟨b0, b1, true, b3, b4, b5, b6, b7, b8, b9, b10, b11, b12, b13, b14, b15, b16, b17, b18, b19, b20, b21, b22, b23, b24, b25, b26, b27, s47, _, _, s50, s51, s52, s53, s54, s55, s56, s57, s58, s59, s60, s61, s62, s63, s64, s65, s66, s67, s68, s46, s69, s70, s71, s72⟩, rfl, rfl, h0, h1, (fun _ => rfl), h3, h4, h5, h6, h7, h8, h9, h10, h11, h12, h13, h14, h15, h16, h17, h18, h19, h20, h22, h24, h25, h26, gi22, gi27, gi23, rW0, rD0, rC0, gB, gP, gX, gF⟩
         · have hn3 : b3 = false := by revert hp; cases b3 <;> simp
           have e2 : b2 = true := by revert hp; cases b2 <;> simp
           clear hp
           obtain rfl := (HI.out.2.2.1) e2
           subst hn3
           refine inv_op (o := ⟨some 50, _, _, _, _, _⟩) rfl (fun K' hK' => ?_)
           go_simp
           obtain ⟨h0, h1, h2, h3, h4, h5, h6, h7, h8, h9, h10, h11, h12, h13, h14, h15, h16, h17, h18, h19, h20, h22, h24, h25, h26, gi22, gi27, gi23, rW0, rD0, rC0, gB, gP, gX, gF⟩ := HI.out
           exact hK'.out _ _ ⟨⟨b0, b1, b2, true, b4, b5, b6, b7, b8, b9, b10, b11, b12, b13, b14, b15, b16, b17, b18, b19, b20, b21, b22, b23, b24, b25, b26, b27, s47, s48, _, _, s51, s52, s53, s54, s55, s56, s57, s58, s59, s60, s61, s62, s63, s64, s65, s66, s67, s68, s46, s69, s70, s71, s72⟩, rfl, rfl, h0, h1, h2, (fun _ => rfl), h4, h5, h6, h7, h8, h9, h10, h11, h12, h13, h14, h15, h16, h17, h18, h19, h20, h22, h24, h25, h26, gi22, gi27, gi23, rW0, rD0, rC0, gB, gP, gX, gF⟩
         · have hn4 : b4 = false := by revert hp; cases b4 <;> simp
           have e3 : b3 = true := by revert hp; cases b3 <;> simp
           clear hp
           obtain rfl := (HI.out.2.2.2.1) e3
           subst hn4
           refine inv_op (o := ⟨some 51, _, _, _, _, _⟩) rfl (fun K' hK' => ?_)
           have gi27 := HI.out.2.2.2.2.2.2.2.2.2.2.2.2.2.2.2.2.2.2.2.2.2.2.2.2.2.2.1
           have rW0 := HI.out.2.2.2.2.2.2.2.2.2.2.2.2.2.2.2.2.2.2.2.2.2.2.2.2.2.2.2.2.1
           have hbf27 : b27 = false := by cases b27 with | false => rfl | true => exact absurd ((gi27 rfl).1) (by decide)
           subst hbf27
           obtain ⟨hc6, _⟩ := at_cell (rW0 rfl) 6 _ rfl
           go_simp
           obtain ⟨h0, h1, h2, h3, h4, h5, h6, h7, h8, h9, h10, h11, h12, h13, h14, h15, h16, h17, h18, h19, h20, h22, h24, h25, h26, gi22, gi27, gi23, rW0, rD0, rC0, gB, gP, gX, gF⟩ := HI.out
           exact hK'.out _ _ ⟨⟨b0, b1, b2, b3, true, b5, b6, b7, b8, b9, b10, b11, b12, b13, b14, b15, b16, b17, b18, b19, b20, b21, b22, b23, b24, b25, b26, false, s47, s48, s49, _, _, s52, s53, s54, s55, s56, s57, s58, s59, s60, s61, s62, s63, s64, s65, s66, s67, s68, s46, s69, s70, s71, s72⟩, rfl, rfl, h0, h1, h2, h3, (fun _ => rfl), h5, h6, h7, h8, h9, h10, h11, h12, h13, h14, h15, h16, h17, h18, h19, h20, h22, h24, h25, h26, gi22, (fun e => by cases e), gi23, rW0, rD0, rC0, gB, gP, gX, (fun e => by cases e)⟩
         · have hn5 : b5 = false := by revert hp; cases b5 <;> simp
           clear hp
           subst hn5
           refine inv_op (o := ⟨some 52, _, _, _, _, _⟩) rfl (fun K' hK' => ?_)
           go_simp
           obtain ⟨h0, h1, h2, h3, h4, h5, h6, h7, h8, h9, h10, h11, h12, h13, h14, h15, h16, h17, h18, h19, h20, h22, h24, h25, h26, gi22, gi27, gi23, rW0, rD0, rC0, gB, gP, gX, gF⟩ := HI.out
           exact hK'.out _ _ ⟨⟨b0, b1, b2, b3, b4, true, b6, b7, b8, b9, b10, b11, b12, b13, b14, b15, b16, b17, b18, b19, b20, b21, b22, b23, b24, b25, b26, b27, s47, s48, s49, s50, s51, _, s53, s54, s55, s56, s57, s58, s59, s60, s61, s62, s63, s64, s65, s66, s67, s68, s46, s69, s70, s71, s72⟩, rfl, rfl, h0, h1, h2, h3, h4, (fun _ => rfl), h6, h7, h8, h9, h10, h11, h12, h13, h14, h15, h16, h17, h18, h19, h20, h22, h24, h25, h26, gi22, gi27, gi23, rW0, rD0, rC0, gB, gP, gX, gF⟩
         · have hn6 : b6 = false := by revert hp; cases b6 <;> simp
           have e5 : b5 = true := by revert hp; cases b5 <;> simp
           clear hp
           obtain rfl := (HI.out.2.2.2.2.2.1) e5
           subst hn6
           refine inv_op (o := ⟨some 53, _, _, _, _, _⟩) rfl (fun K' hK' => ?_)
           go_simp
           obtain ⟨h0, h1, h2, h3, h4, h5, h6, h7, h8, h9, h10, h11, h12, h13, h14, h15, h16, h17, h18, h19, h20, h22, h24, h25, h26, gi22, gi27, gi23, rW0, rD0, rC0, gB, gP, gX, gF⟩ := HI.out
           exact hK'.out _ _ ⟨⟨b0, b1, b2, b3, b4, b5, true, b7, b8, b9, b10, b11, b12, b13, b14, b15, b16, b17, b18, b19, b20, b21, b22, b23, b24, b25, b26, b27, s47, s48, s49, s50, s51, _, _, s54, s55, s56, s57, s58, s59, s60, s61, s62, s63, s64, s65, s66, s67, s68, s46, s69, s70, s71, s72⟩, rfl, rfl, h0, h1, h2, h3, h4, h5, (fun _ => rfl), h7, h8, h9, h10, h11, h12, h13, h14, h15, h16, h17, h18, h19, h20, h22, h24, h25, h26, gi22, gi27, gi23, rW0, rD0, rC0, gB, gP, gX, gF⟩
         · have hn7 : b7 = false := by revert hp; cases b7 <;> simp
           have e6 : b6 = true := by revert hp; cases b6 <;> simp
           clear hp
           obtain rfl := (HI.out.2.2.2.2.2.2.1) e6
           subst hn7
           refine inv_op (o := ⟨some 54, _, _, _, _, _⟩) rfl (fun K' hK' => ?_)
           go_simp
           obtain ⟨h0, h1, h2, h3, h4, h5, h6, h7, h8, h9, h10, h11, h12, h13, h14, h15, h16, h17, h18, h19, h20, h22, h24, h25, h26, gi22, gi27, gi23, rW0, rD0, rC0, gB, gP, gX, gF⟩ := HI.out
           exact hK'.out _ _ ⟨⟨b0, b1, b2, b3, b4, b5, b6, true, b8, b9, b10, b11, b12, b13, b14, b15, b16, b17, b18, b19, b20, b21, b22, b23, b24, b25, b26, b27, s47, s48, s49, s50, s51, s52, _, _, s55, s56, s57, s58, s59, s60, s61, s62, s63, s64, s65, s66, s67, s68, s46, s69, s70, s71, s72⟩, rfl, rfl, h0, h1, h2, h3, h4, h5, h6, (fun _ => rfl), h8, h9, h10, h11, h12, h13, h14, h15, h16, h17, h18, h19, h20, h22, h24, h25, h26, gi22, gi27, gi23, rW0, rD0, rC0, gB, gP, gX, gF⟩
         · have hn8 : b8 = false := by revert hp; cases b8 <;> simp
           have e7 : b7 = true := by revert hp; cases b7 <;> simp
           clear hp
           obtain rfl := (HI.out.2.2.2.2.2.2.2.1) e7
           subst hn8
           refine inv_op (o := ⟨some 55, _, _, _, _, _⟩) rfl (fun K' hK' => ?_)
           go_simp
           obtain ⟨h0, h1, h2, h3, h4, h5, h6, h7, h8, h9, h10, h11, h12, h13, h14, h15, h16, h17, h18, h19, h20, h22, h24, h25, h26, gi22, gi27, gi23, rW0, rD0, rC0, gB, gP, gX, gF⟩ := HI.out
           exact hK'.out _ _ ⟨⟨b0, b1, b2, b3, b4, b5, b6, b7, true, b9, b10, b11, b12, b13, b14, b15, b16, b17, b18, b19, b20, b21, b22, b23, b24, b25, b26, b27, s47, s48, s49, s50, s51, s52, s53, _, _, s56, s57, s58, s59, s60, s61, s62, s63, s64, s65, s66, s67, s68, s46, s69, s70, s71, s72⟩, rfl, rfl, h0, h1, h2, h3, h4, h5, h6, h7, (fun _ => rfl), h9, h10, h11, h12, h13, h14, h15, h16, h17, h18, h19, h20, h22, h24, h25, h26, gi22, gi27, gi23, rW0, rD0, rC0, gB, gP, gX, gF⟩
         · have hn9 : b9 = false := by revert hp; cases b9 <;> simp
           have e8 : b8 = true := by revert hp; cases b8 <;> simp
           clear hp
           obtain rfl := (HI.out.2.2.2.2.2.2.2.2.1) e8
           subst hn9
           refine inv_op (o := ⟨some 56, _, _, _, _, _⟩) rfl (fun K' hK' => ?_)
           have gi27 := HI.out.2.2.2.2.2.2.2.2.2.2.2.2.2.2.2.2.2.2.2.2.2.2.2.2.2.2.1
           have rW0 := HI.out.2.2.2.2.2.2.2.2.2.2.2.2.2.2.2.2.2.2.2.2.2.2.2.2.2.2.2.2.1
           have hbf27 : b27 = false := by cases b27 with | false => rfl | true => exact absurd ((gi27 rfl).2.1) (by decide)
           subst hbf27
           obtain ⟨hc0, _⟩ := at_cell (rW0 rfl) 0 _ rfl
           go_simp
           obtain ⟨h0, h1, h2, h3, h4, h5, h6, h7, h8, h9, h10, h11, h12, h13, h14, h15, h16, h17, h18, h19, h20, h22, h24, h25, h26, gi22, gi27, gi23, rW0, rD0, rC0, gB, gP, gX, gF⟩ := HI.out
           exact hK'.out _ _ ⟨⟨b0, b1, b2, b3, b4, b5, b6, b7, b8, true, b10, b11, b12, b13, b14, b15, b16, b17, b18, b19, b20, b21, b22, b23, b24, b25, b26, false, s47, s48, s49, s50, s51, s52, s53, s54, _, _, s57, s58, s59, s60, s61, s62, s63, s64, s65, s66, s67, s68, s46, s69, s70, s71, s72⟩, rfl, rfl, h0, h1, h2, h3, h4, h5, h6, h7, h8, (fun _ => rfl), h10, h11, h12, h13, h14, h15, h16, h17, h18, h19, h20, h22, h24, h25, h26, gi22, (fun e => by cases e), gi23, rW0, rD0, rC0, gB, gP, gX, (fun e => by cases e)⟩
         · have hn10 : b10 = false := by revert hp; cases b10 <;> simp
           clear hp
           subst hn10
           refine inv_op (o := ⟨some 57, _, _, _, _, _⟩) rfl (fun K' hK' => ?_)
           go_simp
           obtain ⟨h0, h1, h2, h3, h4, h5, h6, h7, h8, h9, h10, h11, h12, h13, h14, h15, h16, h17, h18, h19, h20, h22, h24, h25, h26, gi22, gi27, gi23, rW0, rD0, rC0, gB, gP, gX, gF⟩ := HI.out
           exact hK'.out _ _ ⟨⟨b0, b1, b2, b3, b4, b5, b6, b7, b8, b9, true, b11, b12, b13, b14, b15, b16, b17, b18, b19, b20, b21, b22, b23, b24, b25, b26, b27, s47, s48, s49, s50, s51, s52, s53, s54, s55, s56, _, s58, s59, s60, s61, s62, s63, s64, s65, s66, s67, s68, s46, s69, s70, s71, s72⟩, rfl, rfl, h0, h1, h2, h3, h4, h5, h6, h7, h8, h9, (fun _ => rfl), h11, h12, h13, h14, h15, h16, h17, h18, h19, h20, h22, h24, h25, h26, gi22, gi27, gi23, rW0, rD0, rC0, gB, gP, gX, gF⟩
         · have hn11 : b11 = false := by revert hp; cases b11 <;> simp
           have e10 : b10 = true := by revert hp; cases b10 <;> simp
           clear hp
           obtain rfl := (HI.out.2.2.2.2.2.2.2.2.2.2.1) e10
           subst hn11
           refine inv_op (o := ⟨some 58, _, _, _, _, _⟩) rfl (fun K' hK' => ?_)
           go_simp
           obtain ⟨h0, h1, h2, h3, h4, h5, h6, h7, h8, h9, h10, h11, h12, h13, h14, h15, h16, h17, h18, h19, h20, h22, h24, h25, h26, gi22, gi27, gi23, rW0, rD0, rC0, gB, gP, gX, gF⟩ := HI.out
           exact hK'.out _ _ ⟨⟨b0, b1, b2, b3, b4, b5, b6, b7, b8, b9, b10, true, b12, b13, b14, b15, b16, b17, b18, b19, b20, b21, b22, b23, b24, b25, b26, b27, s47, s48, s49, s50, s51, s52, s53, s54, s55, s56, _, _, s59, s60, s61, s62, s63, s64, s65, s66, s67, s68, s46, s69, s70, s71, s72⟩, rfl, rfl, h0, h1, h2, h3, h4, h5, h6, h7, h8, h9, h10, (fun _ => rfl), h12, h13, h14, h15, h16, h17, h18, h19, h20, h22, h24, h25, h26, gi22, gi27, gi23, rW0, rD0, rC0, gB, gP, gX, gF⟩
         · have hn12 : b12 = false := by revert hp; cases b12 <;> simp
           have e11 : b11 = true := by revert hp; cases b11 <;> simp
           clear hp
           obtain rfl := (HI.out.2.2.2.2.2.2.2.2.2.2.2.1) e11
           subst hn12
           refine inv_op (o := ⟨some 59, _, _, _, _, _⟩) rfl (fun K' hK' => ?_)
           go_simp
           obtain ⟨h0, h1, h2, h3, h4, h5, h6, h7, h8, h9, h10, h11, h12, h13, h14, h15, h16, h17, h18, h19, h20, h22, h24, h25, h26, gi22, gi27, gi23, rW0, rD0, rC0, gB, gP, gX, gF⟩ := HI.out
           exact hK'.out _ _ ⟨⟨b0, b1, b2, b3, b4, b5, b6, b7, b8, b9, b10, b11, true, b13, b14, b15, b16, b17, b18, b19, b20, b21, b22, b23, b24, b25, b26, b27, s47, s48, s49, s50, s51, s52, s53, s54, s55, s56, s57, _, _, s60, s61, s62, s63, s64, s65, s66, s67, s68, s46, s69, s70, s71, s72⟩, rfl, rfl, h0, h1, h2, h3, h4, h5, h6, h7, h8, h9, h10, h11, (fun _ => rfl), h13, h14, h15, h16, h17, h18, h19, h20, h22, h24, h25, h26, gi22, gi27, gi23, rW0, rD0, rC0, gB, gP, gX, gF⟩
         · have hn13 : b13 = false := by revert hp; cases b13 <;> simp
           have e12 : b12 = true := by revert hp; cases b12 <;> simp
           clear hp
           obtain rfl := (HI.out.2.2.2.2.2.2.2.2.2.2.2.2.1) e12
           subst hn13
           refine inv_op (o := ⟨some 60, _, _, _, _, _⟩) rfl (fun K' hK' => ?_)
           go_simp
           obtain ⟨h0, h1, h2, h3, h4, h5, h6, h7, h8, h9, h10, h11, h12, h13, h14, h15, h16, h17, h18, h19, h20, h22, h24, h25, h26, gi22, gi27, gi23, rW0, rD0, rC0, gB, gP, gX, gF⟩ := HI.out
           exact hK'.out _ _ ⟨⟨b0, b1, b2, b3, b4, b5, b6, b7, b8, b9, b10, b11, b12, true, b14, b15, b16, b17, b18, b19, b20, b21, b22, b23, b24, b25, b26, b27, s47, s48, s49, s50, s51, s52, s53, s54, s55, s56, s57, s58, _, _, s61, s62, s63, s64, s65, s66, s67, s68, s46, s69, s70, s71, s72⟩, rfl, rfl, h0, h1, h2, h3, h4, h5, h6, h7, h8, h9, h10, h11, h12, (fun _ => rfl), h14, h15, h16, h17, h18, h19, h20, h22, h24, h25, h26, gi22, gi27, gi23, rW0, rD0, rC0, gB, gP, gX, gF⟩
         · have hn14 : b14 = false := by revert hp; cases b14 <;> simp
           have e13 : b13 = true := by revert hp; cases b13 <;> simp
           clear hp
           obtain rfl := (HI.out.2.2.2.2.2.2.2.2.2.2.2.2.2.1) e13
           subst hn14
           refine inv_op (o := ⟨some 61, _, _, _, _, _⟩) rfl (fun K' hK' => ?_)
           have gi27 := HI.out.2.2.2.2.2.2.2.2.2.2.2.2.2.2.2.2.2.2.2.2.2.2.2.2.2.2.1
           have rW0 := HI.out.2.2.2.2.2.2.2.2.2.2.2.2.2.2.2.2.2.2.2.2.2.2.2.2.2.2.2.2.1
           have hbf27 : b27 = false := by cases b27 with | false => rfl | true => exact absurd ((gi27 rfl).2.2.1) (by decide)
           subst hbf27
           obtain ⟨hc1, _⟩ := at_cell (rW0 rfl) 1 _ rfl
           go_simp
           obtain ⟨h0, h1, h2, h3, h4, h5, h6, h7, h8, h9, h10, h11, h12, h13, h14, h15, h16, h17, h18, h19, h20, h22, h24, h25, h26, gi22, gi27, gi23, rW0, rD0, rC0, gB, gP, gX, gF⟩ := HI.out
           exact hK'.out _ _ ⟨⟨b0, b1, b2, b3, b4, b5, b6, b7, b8, b9, b10, b11, b12, b13, true, b15, b16, b17, b18, b19, b20, b21, b22, b23, b24, b25, b26, false, s47, s48, s49, s50, s51, s52, s53, s54, s55, s56, s57, s58, s59, _, _, s62, s63, s64, s65, s66, s67, s68, s46, s69, s70, s71, s72⟩, rfl, rfl, h0, h1, h2, h3, h4, h5, h6, h7, h8, h9, h10, h11, h12, h13, (fun _ => rfl), h15, h16, h17, h18, h19, h20, h22, h24, h25, h26, gi22, (fun e => by cases e), gi23, rW0, rD0, rC0, gB, gP, gX, (fun e => by cases e)⟩
         · have hn15 : b15 = false := by revert hp; cases b15 <;> simp
           clear hp
           subst hn15
           refine inv_op (o := ⟨some 62, _, _, _, _, _⟩) rfl (fun K' hK' => ?_)
           go_simp
           obtain ⟨h0, h1, h2, h3, h4, h5, h6, h7, h8, h9, h10, h11, h12, h13, h14, h15, h16, h17, h18, h19, h20, h22, h24, h25, h26, gi22, gi27, gi23, rW0, rD0, rC0, gB, gP, gX, gF⟩ := HI.out
           exact hK'.out _ _ ⟨⟨b0, b1, b2, b3, b4, b5, b6, b7, b8, b9, b10, b11, b12, b13, b14, true, b16, b17, b18, b19, b20, b21, b22, b23, b24, b25, b26, b27, s47, s48, s49, s50, s51, s52, s53, s54, s55, s56, s57, s58, s59, s60, s61, _, s63, s64, s65, s66, s67, s68, s46, s69, s70, s71, s72⟩, rfl, rfl, h0, h1, h2, h3, h4, h5, h6, h7, h8, h9, h10, h11, h12, h13, h14, (fun _ => rfl), h16, h17, h18, h19, h20, h22, h24, h25, h26, gi22, gi27, gi23, rW0, rD0, rC0, gB, gP, gX, gF⟩
         · have hn16 : b16 = false := by revert hp; cases b16 <;> simp
           have e15 : b15 = true := by revert hp; cases b15 <;> simp
           clear hp
           obtain rfl := (HI.out.2.2.2.2.2.2.2.2.2.2.2.2.2.2.2.1) e15
           subst hn16
           refine inv_op (o := ⟨some 63, _, _, _, _, _⟩) rfl (fun K' hK' => ?_)
           have gi27 := HI.out.2.2.2.2.2.2.2.2.2.2.2.2.2.2.2.2.2.2.2.2.2.2.2.2.2.2.1
           have rC0 := HI.out.2.2.2.2.2.2.2.2.2.2.2.2.2.2.2.2.2.2.2.2.2.2.2.2.2.2.2.2.2.2.1
           have hbf27 : b27 = false := by cases b27 with | false => rfl | true => exact absurd ((gi27 rfl).2.2.2.1) (by decide)
           subst hbf27
           obtain ⟨hc1, _⟩ := at_cell (rC0 rfl) 1 _ rfl
           go_simp
           obtain ⟨h0, h1, h2, h3, h4, h5, h6, h7, h8, h9, h10, h11, h12, h13, h14, h15, h16, h17, h18, h19, h20, h22, h24, h25, h26, gi22, gi27, gi23, rW0, rD0, rC0, gB, gP, gX, gF⟩ := HI.out
           exact hK'.out _ _ ⟨⟨b0, b1, b2, b3, b4, b5, b6, b7, b8, b9, b10, b11, b12, b13, b14, b15, true, b17, b18, b19, b20, b21, b22, b23, b24, b25, b26, false, s47, s48, s49, s50, s51, s52, s53, s54, s55, s56, s57, s58, s59, s60, s61, _, _, s64, s65, s66, s67, s68, s46, s69, s70, s71, s72⟩, rfl, rfl, h0, h1, h2, h3, h4, h5, h6, h7, h8, h9, h10, h11, h12, h13, h14, h15, (fun _ => rfl), h17, h18, h19, h20, h22, h24, h25, h26, gi22, (fun e => by cases e), gi23, rW0, rD0, rC0, gB, gP, gX, (fun e => by cases e)⟩
         · have hn17 : b17 = false := by revert hp; cases b17 <;> simp
           clear hp
           subst hn17
           refine inv_op (o := ⟨some 64, _, _, _, _, _⟩) rfl (fun K' hK' => ?_)
           go_simp
           obtain ⟨h0, h1, h2, h3, h4, h5, h6, h7, h8, h9, h10, h11, h12, h13, h14, h15, h16, h17, h18, h19, h20, h22, h24, h25, h26, gi22, gi27, gi23, rW0, rD0, rC0, gB, gP, gX, gF⟩ := HI.out
           exact hK'.out _ _ ⟨⟨b0, b1, b2, b3, b4, b5, b6, b7, b8, b9, b10, b11, b12, b13, b14, b15, b16, true, b18, b19, b20, b21, b22, b23, b24, b25, b26, b27, s47, s48, s49, s50, s51, s52, s53, s54, s55, s56, s57, s58, s59, s60, s61, s62, s63, _, s65, s66, s67, s68, s46, s69, s70, s71, s72⟩, rfl, rfl, h0, h1, h2, h3, h4, h5, h6, h7, h8, h9, h10, h11, h12, h13, h14, h15, h16, (fun _ => rfl), h18, h19, h20, h22, h24, h25, h26, gi22, gi27, gi23, rW0, rD0, rC0, gB, gP, gX, gF⟩
         · have hn18 : b18 = false := by revert hp; cases b18 <;> simp
           have e16 : b16 = true := by revert hp; cases b16 <;> simp
           have e17 : b17 = true := by revert hp; cases b17 <;> simp
           clear hp
           obtain rfl := (HI.out.2.2.2.2.2.2.2.2.2.2.2.2.2.2.2.2.1) e16
           obtain rfl := (HI.out.2.2.2.2.2.2.2.2.2.2.2.2.2.2.2.2.2.1) e17
           subst hn18
           refine inv_op (o := ⟨some 65, _, _, _, _, _⟩) rfl (fun K' hK' => ?_)
           go_simp
           obtain ⟨h0, h1, h2, h3, h4, h5, h6, h7, h8, h9, h10, h11, h12, h13, h14, h15, h16, h17, h18, h19, h20, h22, h24, h25, h26, gi22, gi27, gi23, rW0, rD0, rC0, gB, gP, gX, gF⟩ := HI.out
           exact hK'.out _ _ ⟨⟨b0, b1, b2, b3, b4, b5, b6, b7, b8, b9, b10, b11, b12, b13, b14, b15, b16, b17, true, b19, b20, b21, b22, b23, b24, b25, b26, b27, s47, s48, s49, s50, s51, s52, s53, s54, s55, s56, s57, s58, s59, s60, s61, s62, _, _, _, s66, s67, s68, s46, s69, s70, s71, s72⟩, rfl, rfl, h0, h1, h2, h3, h4, h5, h6, h7, h8, h9, h10, h11, h12, h13, h14, h15, h16, h17, (fun _ => rfl), h19, h20, h22, h24, h25, h26, gi22, gi27, gi23, rW0, rD0, rC0, gB, gP, gX, gF⟩
         · have hn19 : b19 = false := by revert hp; cases b19 <;> simp
           have e18 : b18 = true := by revert hp; cases b18 <;> simp
           clear hp
           obtain rfl := (HI.out.2.2.2.2.2.2.2.2.2.2.2.2.2.2.2.2.2.2.1) e18
           subst hn19
           refine inv_op (o := ⟨some 66, _, _, _, _, _⟩) rfl (fun K' hK' => ?_)
           have gi27 := HI.out.2.2.2.2.2.2.2.2.2.2.2.2.2.2.2.2.2.2.2.2.2.2.2.2.2.2.1
           have gB := HI.out.2.2.2.2.2.2.2.2.2.2.2.2.2.2.2.2.2.2.2.2.2.2.2.2.2.2.2.2.2.2.2.1
           have hbf27 : b27 = false := by cases b27 with | false => rfl | true => exact absurd ((gi27 rfl).2.2.2.2.1) (by decide)
           subst hbf27
           have hc7 := (HX4.out.below (gB rfl)).at k HKD.out
           rw [HDK.out] at hc7
           go_simp
           obtain ⟨h0, h1, h2, h3, h4, h5, h6, h7, h8, h9, h10, h11, h12, h13, h14, h15, h16, h17, h18, h19, h20, h22, h24, h25, h26, gi22, gi27, gi23, rW0, rD0, rC0, gB, gP, gX, gF⟩ := HI.out
           exact hK'.out _ _ ⟨⟨b0, b1, b2, b3, b4, b5, b6, b7, b8, b9, b10, b11, b12, b13, b14, b15, b16, b17, b18, true, b20, b21, b22, b23, b24, b25, b26, false, s47, s48, s49, s50, s51, s52, s53, s54, s55, s56, s57, s58, s59, s60, s61, s62, s63, s64, _, _, s67, s68, s46, s69, s70, s71, s72⟩, rfl, rfl, h0, h1, h2, h3, h4, h5, h6, h7, h8, h9, h10, h11, h12, h13, h14, h15, h16, h17, h18, (fun _ => rfl), h20, h22, h24, h25, h26, gi22, (fun e => by cases e), gi23, rW0, rD0, rC0, gB, gP, gX, (fun e => by cases e)⟩
         · have hn20 : b20 = false := by revert hp; cases b20 <;> simp
           clear hp
           subst hn20
           refine inv_op (o := ⟨some 67, _, _, _, _, _⟩) rfl (fun K' hK' => ?_)
           have gi27 := HI.out.2.2.2.2.2.2.2.2.2.2.2.2.2.2.2.2.2.2.2.2.2.2.2.2.2.2.1
           have rD0 := HI.out.2.2.2.2.2.2.2.2.2.2.2.2.2.2.2.2.2.2.2.2.2.2.2.2.2.2.2.2.2.1
           have hbf27 : b27 = false := by cases b27 with | false => rfl | true => exact absurd ((gi27 rfl).2.2.2.2.2.1) (by decide)
           subst hbf27
           obtain ⟨hc0, _⟩ := at_cell (rD0 rfl) 0 _ rfl
           obtain ⟨hc1, _⟩ := at_cell (rD0 rfl) 1 _ rfl
           obtain ⟨hc2, _⟩ := at_cell (rD0 rfl) 2 _ rfl
           obtain ⟨hc3, _⟩ := at_cell (rD0 rfl) 3 _ rfl
           go_simp
           obtain ⟨h0, h1, h2, h3, h4, h5, h6, h7, h8, h9, h10, h11, h12, h13, h14, h15, h16, h17, h18, h19, h20, h22, h24, h25, h26, gi22, gi27, gi23, rW0, rD0, rC0, gB, gP, gX, gF⟩ := HI.out
           exact hK'.out _ _ ⟨⟨b0, b1, b2, b3, b4, b5, b6, b7, b8, b9, b10, b11, b12, b13, b14, b15, b16, b17, b18, b19, true, b21, b22, b23, b24, b25, b26, false, s47, s48, s49, s50, s51, s52, s53, s54, s55, s56, s57, s58, s59, s60, s61, s62, s63, s64, s65, s66, _, s68, s46, s69, s70, s71, s72⟩, rfl, rfl, h0, h1, h2, h3, h4, h5, h6, h7, h8, h9, h10, h11, h12, h13, h14, h15, h16, h17, h18, h19, (fun _ => rfl), h22, h24, h25, h26, gi22, (fun e => by cases e), gi23, rW0, rD0, rC0, gB, gP, gX, (fun e => by cases e)⟩
         · have hn21 : b21 = false := by revert hp; cases b21 <;> simp
           have e4 : b4 = true := by revert hp; cases b4 <;> simp
           have e9 : b9 = true := by revert hp; cases b9 <;> simp
           have e14 : b14 = true := by revert hp; cases b14 <;> simp
           have e19 : b19 = true := by revert hp; cases b19 <;> simp
           have e20 : b20 = true := by revert hp; cases b20 <;> simp
           clear hp
           obtain rfl := (HI.out.2.2.2.2.1) e4
           obtain rfl := (HI.out.2.2.2.2.2.2.2.2.2.1) e9
           obtain rfl := (HI.out.2.2.2.2.2.2.2.2.2.2.2.2.2.2.1) e14
           obtain rfl := (HI.out.2.2.2.2.2.2.2.2.2.2.2.2.2.2.2.2.2.2.2.1) e19
           obtain rfl := (HI.out.2.2.2.2.2.2.2.2.2.2.2.2.2.2.2.2.2.2.2.2.1) e20
           subst hn21
           refine inv_op (o := ⟨some 68, _, _, _, _, _⟩) rfl (fun K' hK' => ?_)
           have gi22 := HI.out.2.2.2.2.2.2.2.2.2.2.2.2.2.2.2.2.2.2.2.2.2.2.2.2.2.1
           have gi27 := HI.out.2.2.2.2.2.2.2.2.2.2.2.2.2.2.2.2.2.2.2.2.2.2.2.2.2.2.1
           have gi23 := HI.out.2.2.2.2.2.2.2.2.2.2.2.2.2.2.2.2.2.2.2.2.2.2.2.2.2.2.2.1
           have gB := HI.out.2.2.2.2.2.2.2.2.2.2.2.2.2.2.2.2.2.2.2.2.2.2.2.2.2.2.2.2.2.2.2.1
           have hbf22 : b22 = false := by cases b22 with | false => rfl | true => exact absurd ((gi22 rfl)) (by decide)
           subst hbf22
           have hbf27 : b27 = false := by cases b27 with | false => rfl | true => exact absurd ((gi27 rfl).2.2.2.2.2.2) (by decide)
           subst hbf27
           have hbf23 : b23 = false := by cases b23 with | false => rfl | true => exact absurd ((gi23 rfl)) (by decide)
           subst hbf23
           go_simp
           refine (HSD.out W (gB rfl)).mono ?_
           rintro e w2 ⟨ra, rc, rfl, hr, bn⟩
           obtain ⟨h0, h1, h2, h3, h4, h5, h6, h7, h8, h9, h10, h11, h12, h13, h14, h15, h16, h17, h18, h19, h20, h22, h24, h25, h26, gi22, gi27, gi23, rW0, rD0, rC0, gB, gP, gX, gF⟩ := HI.out
           exact hK'.out _ _ ⟨⟨b0, b1, b2, b3, b4, b5, b6, b7, b8, b9, b10, b11, b12, b13, b14, b15, b16, b17, b18, b19, b20, true, false, false, b24, b25, b26, false, s47, s48, s49, s50, _, s52, s53, s54, s55, _, s57, s58, s59, s60, _, s62, s63, s64, s65, _, _, _, s46, s69, s70, s71, s72⟩, rfl, rfl, h0, h1, h2, h3, h4, h5, h6, h7, h8, h9, h10, h11, h12, h13, h14, h15, h16, h17, h18, h19, h20, (fun e => by cases ((gi22 e))), h24, h25, h26, (fun e => by cases e), (fun e => by cases e), (fun e => by cases e), (fun e => row_keep (rW0 e) bn), (fun e => row_keep (rD0 e) bn), (fun e => row_keep (rC0 e) bn), (fun e => (gB e).trans (bn.mono (gB e).size)), (fun _ => ⟨ra, rc, rfl, hr⟩), (fun e => by cases e), (fun e => by cases e)⟩
         · have hn22 : b22 = false := by revert hp; cases b22 <;> simp
           have e21 : b21 = true := by revert hp; cases b21 <;> simp
           clear hp
           subst hn22
           refine inv_op (o := ⟨some 46, _, _, _, _, _⟩) rfl (fun K' hK' => ?_)
           go_simp
           obtain ⟨h0, h1, h2, h3, h4, h5, h6, h7, h8, h9, h10, h11, h12, h13, h14, h15, h16, h17, h18, h19, h20, h22, h24, h25, h26, gi22, gi27, gi23, rW0, rD0, rC0, gB, gP, gX, gF⟩ := HI.out
           exact hK'.out _ _ ⟨⟨b0, b1, b2, b3, b4, b5, b6, b7, b8, b9, b10, b11, b12, b13, b14, b15, b16, b17, b18, b19, b20, b21, true, b23, b24, b25, b26, b27, s47, s48, s49, s50, s51, s52, s53, s54, s55, s56, s57, s58, s59, s60, s61, s62, s63, s64, s65, s66, s67, _, _, s69, s70, s71, s72⟩, rfl, rfl, h0, h1, h2, h3, h4, h5, h6, h7, h8, h9, h10, h11, h12, h13, h14, h15, h16, h17, h18, h19, h20, (fun _ => rfl), h24, h25, h26, (fun _ => e21), gi27, gi23, rW0, rD0, rC0, gB, gP, gX, gF⟩
         · have hn23 : b23 = false := by revert hp; cases b23 <;> simp
           have e22 : b22 = true := by revert hp; cases b22 <;> simp
           clear hp
           obtain rfl := (HI.out.2.2.2.2.2.2.2.2.2.2.2.2.2.2.2.2.2.2.2.2.2.1) e22
           subst hn23
           refine inv_op (o := ⟨some 69, _, _, _, _, _⟩) rfl (fun K' hK' => ?_)
           have gi22 := HI.out.2.2.2.2.2.2.2.2.2.2.2.2.2.2.2.2.2.2.2.2.2.2.2.2.2.1
           have gP := HI.out.2.2.2.2.2.2.2.2.2.2.2.2.2.2.2.2.2.2.2.2.2.2.2.2.2.2.2.2.2.2.2.2.1
           obtain ⟨ra, rc, rfl, hp⟩ := gP ((gi22 e22))
           go_simp
           obtain ⟨h0, h1, h2, h3, h4, h5, h6, h7, h8, h9, h10, h11, h12, h13, h14, h15, h16, h17, h18, h19, h20, h22, h24, h25, h26, gi22, gi27, gi23, rW0, rD0, rC0, gB, gP, gX, gF⟩ := HI.out
           exact hK'.out _ _ ⟨⟨b0, b1, b2, b3, b4, b5, b6, b7, b8, b9, b10, b11, b12, b13, b14, b15, b16, b17, b18, b19, b20, b21, b22, true, b24, b25, b26, b27, s47, s48, s49, s50, s51, s52, s53, s54, s55, s56, s57, s58, s59, s60, s61, s62, s63, s64, s65, s66, s67, _, _, _, s70, s71, s72⟩, rfl, rfl, h0, h1, h2, h3, h4, h5, h6, h7, h8, h9, h10, h11, h12, h13, h14, h15, h16, h17, h18, h19, h20, h22, h24, h25, h26, gi22, gi27, (fun _ => (gi22 e22)), rW0, rD0, rC0, gB, (fun _ => ⟨ra, rc, rfl, hp⟩), (fun _ => ⟨ra, rc, rfl, hp⟩), gF⟩
         · have hn24 : b24 = false := by revert hp; cases b24 <;> simp
           have e22 : b22 = true := by revert hp; cases b22 <;> simp
           clear hp
           obtain rfl := (HI.out.2.2.2.2.2.2.2.2.2.2.2.2.2.2.2.2.2.2.2.2.2.1) e22
           subst hn24
           refine inv_op (o := ⟨some 70, _, _, _, _, _⟩) rfl (fun K' hK' => ?_)
           have gi22 := HI.out.2.2.2.2.2.2.2.2.2.2.2.2.2.2.2.2.2.2.2.2.2.2.2.2.2.1
           have gP := HI.out.2.2.2.2.2.2.2.2.2.2.2.2.2.2.2.2.2.2.2.2.2.2.2.2.2.2.2.2.2.2.2.2.1
           obtain ⟨ra, rc, rfl, hp⟩ := gP ((gi22 e22))
           go_simp
           obtain ⟨h0, h1, h2, h3, h4, h5, h6, h7, h8, h9, h10, h11, h12, h13, h14, h15, h16, h17, h18, h19, h20, h22, h24, h25, h26, gi22, gi27, gi23, rW0, rD0, rC0, gB, gP, gX, gF⟩ := HI.out
           exact hK'.out _ _ ⟨⟨b0, b1, b2, b3, b4, b5, b6, b7, b8, b9, b10, b11, b12, b13, b14, b15, b16, b17, b18, b19, b20, b21, b22, b23, true, b25, b26, b27, s47, s48, s49, s50, s51, s52, s53, s54, s55, s56, s57, s58, s59, s60, s61, s62, s63, s64, s65, s66, s67, _, _, s69, _, s71, s72⟩, rfl, rfl, h0, h1, h2, h3, h4, h5, h6, h7, h8, h9, h10, h11, h12, h13, h14, h15, h16, h17, h18, h19, h20, h22, (fun _ => rfl), h25, h26, gi22, gi27, gi23, rW0, rD0, rC0, gB, (fun _ => ⟨ra, rc, rfl, hp⟩), gX, gF⟩
         · have hn25 : b25 = false := by revert hp; cases b25 <;> simp
           have e0 : b0 = true := by revert hp; cases b0 <;> simp
           clear hp
           obtain rfl := (HI.out.1) e0
           subst hn25
           refine inv_op (o := ⟨some 71, _, _, _, _, _⟩) rfl (fun K' hK' => ?_)
           go_simp
           obtain ⟨h0, h1, h2, h3, h4, h5, h6, h7, h8, h9, h10, h11, h12, h13, h14, h15, h16, h17, h18, h19, h20, h22, h24, h25, h26, gi22, gi27, gi23, rW0, rD0, rC0, gB, gP, gX, gF⟩ := HI.out
           exact hK'.out _ _ ⟨⟨b0, b1, b2, b3, b4, b5, b6, b7, b8, b9, b10, b11, b12, b13, b14, b15, b16, b17, b18, b19, b20, b21, b22, b23, b24, true, b26, b27, _, s48, s49, s50, s51, s52, s53, s54, s55, s56, s57, s58, s59, s60, s61, s62, s63, s64, s65, s66, s67, s68, s46, s69, s70, _, s72⟩, rfl, rfl, h0, h1, h2, h3, h4, h5, h6, h7, h8, h9, h10, h11, h12, h13, h14, h15, h16, h17, h18, h19, h20, h22, h24, (fun _ => rfl), h26, gi22, gi27, gi23, rW0, rD0, rC0, gB, gP, gX, gF⟩
         · have hn26 : b26 = false := by revert hp; cases b26 <;> simp
           have e25 : b25 = true := by revert hp; cases b25 <;> simp
           clear hp
           obtain rfl := (HI.out.2.2.2.2.2.2.2.2.2.2.2.2.2.2.2.2.2.2.2.2.2.2.2.1) e25
           subst hn26
           refine inv_op (o := ⟨some 72, _, _, _, _, _⟩) rfl (fun K' hK' => ?_)
           go_simp
           obtain ⟨h0, h1, h2, h3, h4, h5, h6, h7, h8, h9, h10, h11, h12, h13, h14, h15, h16, h17, h18, h19, h20, h22, h24, h25, h26, gi22, gi27, gi23, rW0, rD0, rC0, gB, gP, gX, gF⟩ := HI.out
           exact hK'.out _ _ ⟨⟨b0, b1, b2, b3, b4, b5, b6, b7, b8, b9, b10, b11, b12, b13, b14, b15, b16, b17, b18, b19, b20, b21, b22, b23, b24, b25, true, b27, s47, s48, s49, s50, s51, s52, s53, s54, s55, s56, s57, s58, s59, s60, s61, s62, s63, s64, s65, s66, s67, s68, s46, s69, s70, _, _⟩, rfl, rfl, h0, h1, h2, h3, h4, h5, h6, h7, h8, h9, h10, h11, h12, h13, h14, h15, h16, h17, h18, h19, h20, h22, h24, h25, (fun _ => rfl), gi22, gi27, gi23, rW0, rD0, rC0, gB, gP, gX, gF⟩
         · have hn27 : b27 = false := by revert hp; cases b27 <;> simp
           have e23 : b23 = true := by revert hp; cases b23 <;> simp
           have e26 : b26 = true := by revert hp; cases b26 <;> simp
           have e21 : b21 = true := by revert hp; cases b21 <;> simp
           have e4 : b4 = true := by revert hp; cases b4 <;> simp
           have e9 : b9 = true := by revert hp; cases b9 <;> simp
           have e14 : b14 = true := by revert hp; cases b14 <;> simp
           have e16 : b16 = true := by revert hp; cases b16 <;> simp
           have e19 : b19 = true := by revert hp; cases b19 <;> simp
           have e20 : b20 = true := by revert hp; cases b20 <;> simp
           clear hp
           obtain rfl := (HI.out.2.2.2.2.2.2.2.2.2.2.2.2.2.2.2.2.2.2.2.2.2.2.2.2.1) e26
           subst hn27
           refine inv_op (o := ⟨none, _, _, _, _, _⟩) rfl (fun K' hK' => ?_)
           have rW0 := HI.out.2.2.2.2.2.2.2.2.2.2.2.2.2.2.2.2.2.2.2.2.2.2.2.2.2.2.2.2.1
           have gB := HI.out.2.2.2.2.2.2.2.2.2.2.2.2.2.2.2.2.2.2.2.2.2.2.2.2.2.2.2.2.2.2.2.1
           have gX := HI.out.2.2.2.2.2.2.2.2.2.2.2.2.2.2.2.2.2.2.2.2.2.2.2.2.2.2.2.2.2.2.2.2.2.1
           obtain ⟨ra, rc, rfl, hx⟩ := gX e23
           have hrow := rW0 rfl
           have hgb := gB rfl
           obtain ⟨hc, hz⟩ := at_cell hrow 6 _ rfl
           have hlx := (Array.getElem?_eq_some_iff.1 hrow).1
           go_simp
           obtain ⟨h0, h1, h2, h3, h4, h5, h6, h7, h8, h9, h10, h11, h12, h13, h14, h15, h16, h17, h18, h19, h20, h22, h24, h25, h26, gi22, gi27, gi23, rW0, rD0, rC0, gB, gP, gX, gF⟩ := HI.out
           exact hK'.out _ _ ⟨⟨b0, b1, b2, b3, b4, b5, b6, b7, b8, b9, b10, b11, b12, b13, b14, b15, b16, b17, b18, b19, b20, b21, b22, b23, b24, b25, b26, true, s47, s48, s49, s50, s51, s52, s53, s54, s55, s56, s57, s58, s59, s60, s61, s62, s63, s64, s65, s66, s67, s68, s46, _, s70, s71, _⟩, rfl, rfl, h0, h1, h2, h3, h4, h5, h6, h7, h8, h9, h10, h11, h12, h13, h14, h15, h16, h17, h18, h19, h20, h22, h24, h25, h26, gi22, (fun _ => ⟨e4, e9, e14, e16, e19, e20, e21⟩), gi23, (fun e => by cases e), (fun e => by cases e), (fun e => by cases e), (fun e => by cases e), (fun e => by obtain ⟨y0, y1, h1, h2⟩ := gP e; exact ⟨y0, y1, h1, h2.stay hrow (by decide) 6 _⟩), (fun _ => ⟨ra, rc, rfl, hx.stay hrow (by decide) 6 _⟩), (fun _ => ⟨ra, rc, W, rfl, hgb, hx⟩)⟩
        case hdone =>
         rintro ⟨b0, b1, b2, b3, b4, b5, b6, b7, b8, b9, b10, b11, b12, b13, b14, b15, b16, b17, b18, b19, b20, b21, b22, b23, b24, b25, b26, b27, s47, s48, s49, s50, s51, s52, s53, s54, s55, s56, s57, s58, s59, s60, s61, s62, s63, s64, s65, s66, s67, s68, s46, s69, s70, s71, s72⟩ W hI hall
         dsimp only at hI hall ⊢
         have HI := Lib.hid hI
         clear hI
         obtain rfl : b0 = true := hall 0 (by decide)
         obtain rfl : b1 = true := hall 1 (by decide)
         obtain rfl : b2 = true := hall 2 (by decide)
         obtain rfl : b3 = true := hall 3 (by decide)
         obtain rfl : b4 = true := hall 4 (by decide)
         obtain rfl : b5 = true := hall 5 (by decide)
         obtain rfl : b6 = true := hall 6 (by decide)
         obtain rfl : b7 = true := hall 7 (by decide)
         obtain rfl : b8 = true := hall 8 (by decide)
         obtain rfl : b9 = true := hall 9 (by decide)
         obtain rfl : b10 = true := hall 10 (by decide)
         obtain rfl : b11 = true := hall 11 (by decide)
         obtain rfl : b12 = true := hall 12 (by decide)
         obtain rfl : b13 = true := hall 13 (by decide)
         obtain rfl : b14 = true := hall 14 (by decide)
         obtain rfl : b15 = true := hall 15 (by decide)
         obtain rfl : b16 = true := hall 16 (by decide)
         obtain rfl : b17 = true := hall 17 (by decide)
         obtain rfl : b18 = true := hall 18 (by decide)
         obtain rfl : b19 = true := hall 19 (by decide)
         obtain rfl : b20 = true := hall 20 (by decide)
         obtain rfl : b21 = true := hall 21 (by decide)
         obtain rfl : b22 = true := hall 22 (by decide)
         obtain rfl : b23 = true := hall 23 (by decide)
         obtain rfl : b24 = true := hall 24 (by decide)
         obtain rfl : b25 = true := hall 25 (by decide)
         obtain rfl : b26 = true := hall 26 (by decide)
         obtain rfl : b27 = true := hall 27 (by decide)
         have gF := HI.out.2.2.2.2.2.2.2.2.2.2.2.2.2.2.2.2.2.2.2.2.2.2.2.2.2.2.2.2.2.2.2.2.2.2
         clear HI hall
         obtain ⟨ra, rc, w6, rfl, hb6, ho6⟩ := gF rfl
         have hw6 := ((HWw.out.below HBXw.out).below hb6).setM ho6
         have hr6 := row_keep (row_keep HRw.out HBXw.out) hb6
         have hbb := HBXw.out.trans (hb6.mono HBXw.out.size)
         have HW6 := Lib.hid hw6
         have HR6 := Lib.hid (one_other hr6 ⟨g, 6, none⟩ (.slice ra L rc) (blocks_ne hr6 (row_keep HWw.out.row hbb) (fun e => tChW e.symm)))
         have HS6 := Lib.hid ((HSw.out.trans (Spare.of_below hbb (Nat.le_trans HBB.out HSw.out.size) _)).trans (Spare.set (i := 6) (u := .slice ra L rc) (row_keep HWw.out.row hbb) rfl HWw.out.lo))
         clear gF hb6 ho6 hw6 hr6 hbb
         go_wp2
         go_roundw
         case rel => exact ⟨k + 1, ra, rc, by omega, by go_num, by rw [HL2.out]; exact HW6.out, HR6.out, HS6.out⟩
         case measure => simp [intOf]; omega
  · obtain rfl : n = k := by omega
    have HE := Lib.hid (show WorkB B wr g _ _ _ _ D (layK l bq ds bs n) from HWw.out)
    go_wp2
    refine bodyPost_end (v := .tuple #[]) (by simp [results, Tryz.results27]) rfl ⟨.slice ma L mc, rfl, HE.out, HSw.out⟩
end Go.Proofs.YtnmekbbnglkmcaaGreat
