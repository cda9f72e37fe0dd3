import Derived.Test.YtnmekbbnglkmcaaGreatG03
namespace Go.Proofs.YtnmekbbnglkmcaaGreat
open Go.RowKit Go.Lib
theorem buf_neq (a n : Int) (b : Bool) (W : World) : (binOp .neq 39 (.agg #[.int .i64 a, .int .i64 n, .bool b]) (.agg #[.int .i64 a, .int .i64 n, .bool b])).run Tryz.prog W = .ok (.bool false) W := by
 rw [run_neq_struct, run_equalIn_agg _ _ _ _ _ (by kernel_rfl) (by kernel_rfl)]
 simp [go_sem, Op.eqFields, Program.fieldsOf, Tryz.underlying39]
set_option maxHeartbeats 2000000 in
theorem bufs_any (B B' : Nat) (v v' : Value) (bs : List QB) (w : World) (hv : OwnBf B w v bs) (hv' : OwnBf B' w v' bs) (hl : bs.length ≤ 1000) :
 Calls Tryz.prog 12 #[v, v'] w fun e w' => e = .returned (.bool true) ∧ Below w.heap.size w w' := by
 obtain ⟨pa, pc, rfl, _, _⟩ := hv.shape
 obtain ⟨qa, qc, rfl, _, _⟩ := hv'.shape
 obtain ⟨n, hn⟩ : ∃ n, n = bs.length := ⟨_, rfl⟩
 rw [← hn] at hv hv' hl ⊢
 have HV := Lib.hid hv
 have HW := Lib.hid hv'
 have HN := Lib.hid hn
 clear hv hv' hn
 go_enter Tryz.func12, Tryz.ntmps12
 go_wp2
 go_loopw [5] (fun i wr => ∃ k : Nat, k ≤ n ∧ i = .int .i64 k ∧ Below w.heap.size w wr) (fun i _ => n - (intOf i).toNat)
 case atStart => exact ⟨0, Nat.zero_le _, rfl, Below.refl _ _⟩
 case round =>
  obtain ⟨k, hk, rfl, hb⟩ := hrel
  have HB := Lib.hid hb
  clear hb
  by_cases hlt : k < n
  · obtain ⟨gp, rfl, _⟩ := (HV.out.below HB.out).lie (by rw [← HN.out]; omega)
    obtain ⟨gq, rfl, _⟩ := (HW.out.below HB.out).lie (by rw [← HN.out]; omega)
    obtain ⟨px, py, pt, hx, p0, p1, p2⟩ := (HV.out.below HB.out).at k (by rw [← HN.out]; exact hlt)
    obtain ⟨qx, qy, qt, hy, q0, q1, q2⟩ := (HW.out.below HB.out).at k (by rw [← HN.out]; exact hlt)
    obtain ⟨rfl, rfl, rfl⟩ : px = qx ∧ py = qy ∧ pt = qt := by rw [hx] at hy; injection hy with hy; injection hy with h1 h2; injection h2 with h2 h3; exact ⟨h1, h2, h3⟩
    have hq := buf_neq px py pt
    clear hx hy
    go_wp2_with fail
    go_quiet (fail)
    go_wp2
    go_roundw
    case rel => exact ⟨k + 1, by omega, by go_num, below_drewN HB.out _⟩
    case measure => simp [intOf]; omega
  · obtain rfl : n = k := by omega
    go_wp2
    go_ret
    exact ⟨rfl, HB.out⟩
set_option maxHeartbeats 2000000 in
theorem ints_any (B B' : Nat) (v v' : Value) (l : List Int) (w : World) (hv : OwnI B w v l) (hv' : OwnI B' w v' l) (hl : l.length ≤ 1000) :
 Calls Tryz.prog 29 #[v, v'] w fun e w' => e = .returned (.bool true) ∧ Below w.heap.size w w' := by
 obtain ⟨pa, pc, rfl, _, _⟩ := hv.shape
 obtain ⟨qa, qc, rfl, _, _⟩ := hv'.shape
 obtain ⟨n, hn⟩ : ∃ n, n = l.length := ⟨_, rfl⟩
 rw [← hn] at hv hv' hl ⊢
 have HV := Lib.hid hv
 have HW := Lib.hid hv'
 have HN := Lib.hid hn
 clear hv hv' hn
 go_enter Tryz.func29, Tryz.ntmps29
 go_wp2
 go_loopw [5] (fun i wr => ∃ k : Nat, k ≤ n ∧ i = .int .i64 k ∧ Below w.heap.size w wr) (fun i _ => n - (intOf i).toNat)
 case atStart => exact ⟨0, Nat.zero_le _, rfl, Below.refl _ _⟩
 case round =>
  obtain ⟨k, hk, rfl, hb⟩ := hrel
  have HB := Lib.hid hb
  clear hb
  by_cases hlt : k < n
  · have hne : l ≠ [] := by intro e; have := HN.out; rw [e] at this; simp at this; omega
    obtain ⟨gp, _, rfl, _⟩ := (HV.out.below HB.out).lie hne
    obtain ⟨gq, _, rfl, _⟩ := (HW.out.below HB.out).lie hne
    have p0 := (HV.out.below HB.out).at k (by rw [← HN.out]; exact hlt)
    have q0 := (HW.out.below HB.out).at k (by rw [← HN.out]; exact hlt)
    obtain ⟨z, hz⟩ : ∃ z, l.getD k 0 = z := ⟨_, rfl⟩
    rw [hz] at p0 q0
    clear hz hne
    go_wp2_with fail
    go_quiet (fail)
    go_wp2
    go_roundw
    case rel => exact ⟨k + 1, by omega, by go_num, below_drewN HB.out _⟩
    case measure => simp [intOf]; omega
  · obtain rfl : n = k := by omega
    go_wp2
    go_ret
    exact ⟨rfl, HB.out⟩
set_option maxHeartbeats 2000000 in
set_option maxRecDepth 100000 in
theorem had_any (B : Nat) (q : QQ) (F C : Value) (D : List Value) (i : Nat) (c : QCh) (x y : Int) (w : World) (hq : IsQ B w F C q D) (hl : q.chains.length ≤ 1000) (hc : q.chains[i]? = some c) (hx : c.head = x) (hy : 0 ≤ y ∧ y ≤ c.room) :
 Calls Tryz.prog 16 #[.agg #[.int .i64 q.base, .int .i64 q.size, F, .int .u16 (q.avail : Nat), .int .u16 (q.last : Nat), C], .int .i64 x, .int .i64 y] w fun e w' => e = .returned (.bool true) ∧ Below w.heap.size w w' := by
 obtain ⟨fa, fn, fc, ca, cn, cc, rfl, rfl, hfn, hcn, k1, k2, k3, k4⟩ := hq.shape
 obtain ⟨b, z, fr, av, la, ch⟩ := q
 simp only at *
 obtain ⟨hy0, hy1⟩ := hy
 have hi : i < cn := by rw [hcn]; exact (List.getElem?_eq_some_iff.1 hc).1
 have hb : Below w.heap.size w (w.alloc (.cells #[.int .i64 b, .int .i64 z, .slice fa fn fc, .int .u16 (av : Nat), .int .u16 (la : Nat), .slice ca cn cc] 30)) := (Below.refl _ _).alloc (Nat.le_refl _) _
 have HC := Lib.hid (hq.below hb).chains
 have HR := Lib.hid (heap_alloc_new w (.cells #[.int .i64 b, .int .i64 z, .slice fa fn fc, .int .u16 (av : Nat), .int .u16 (la : Nat), .slice ca cn cc] 30))
 have HB := Lib.hid hb
 have HN := Lib.hid hcn
 have HE := Lib.hid hc
 have HX := Lib.hid hx
 have HY := Lib.hid hy1
 have hcn9 : cn ≤ 1000 := by omega
 obtain ⟨g, cur, rfl, t1, t2, t3, t4, t5, t6⟩ := HC.out.lie (by show 0 < ch.length; omega)
 clear t1 t2 t3 t4 t5 t6
 clear hq hl hc hx hy1 hb hfn hcn k1 k2 k3 k4
 go_enter Tryz.func16, Tryz.ntmps16
 go_wp2
 go_loopw [7] (fun j wr => ∃ k : Nat, k ≤ i ∧ j = .int .i64 k ∧ Below (w.alloc (.cells #[.int .i64 b, .int .i64 z, .slice fa fn fc, .int .u16 (av : Nat), .int .u16 (la : Nat), .slice (some ⟨g, 0, none⟩) cn cc] 30)).heap.size (w.alloc (.cells #[.int .i64 b, .int .i64 z, .slice fa fn fc, .int .u16 (av : Nat), .int .u16 (la : Nat), .slice (some ⟨g, 0, none⟩) cn cc] 30)) wr) (fun j _ => cn - (intOf j).toNat)
 case atStart => exact ⟨0, Nat.zero_le _, rfl, Below.refl _ _⟩
 case round =>
  obtain ⟨k, hk, rfl, hbw⟩ := hrel
  have HBw := Lib.hid hbw
  clear hbw
  obtain ⟨⟨r0, r1, r2, r3, r4, r5⟩, _⟩ := cells_six (row_keep HR.out HBw.out)
  have hlt : k < cn := by omega
  obtain ⟨d, dv, e1, e2, g0, g1, g2, _⟩ := (HC.out.below HBw.out).at k (by rw [← HN.out]; exact hlt)
  have hdec : k = i → d.head = x ∧ y ≤ d.room := fun e => by
   subst e
   have h1 := HE.out
   rw [e1] at h1
   injection h1 with h1
   rw [h1]
   exact ⟨HX.out, HY.out⟩
  obtain ⟨hd, ds, rm⟩ := d
  simp only at g0 g2 hdec
  have hy2 : decide (y ≥ 0) = true := decide_eq_true hy0
  have hy3 : decide (0 ≤ y) = true := decide_eq_true hy0
  clear e1 e2 g1
  by_cases hh : hd = x
  · have hh1 : (hd == x) = true := by rw [hh]; simp
    by_cases hr : y ≤ rm
    · have hr1 : decide (y ≤ rm) = true := decide_eq_true hr
      subst hh
      clear hdec
      go_wp2
      go_ret
      exact ⟨rfl, HB.out.trans (HBw.out.mono HB.out.size)⟩
    · have hr1 : decide (y ≤ rm) = false := decide_eq_false hr
      have hki : k ≠ i := fun e => hr (hdec e).2
      subst hh
      clear hdec
      go_wp2
      go_roundw
      case rel => exact ⟨k + 1, by omega, by go_num, HBw.out⟩
      case measure => simp [intOf]; omega
  · have hh1 : (hd == x) = false := by rw [beq_eq_false_iff_ne]; exact hh
    have hki : k ≠ i := fun e => hh (hdec e).1
    clear hdec
    go_wp2
    go_roundw
    case rel => exact ⟨k + 1, by omega, by go_num, HBw.out⟩
    case measure => simp [intOf]; omega
end Go.Proofs.YtnmekbbnglkmcaaGreat
namespace Go.Proofs.YtnmekbbnglkmcaaGreat
open Go.RowKit Go.Lib
theorem good_empty {q : QQ} {N : Nat} (h : GoodQ q N) (hc : q.chains = []) : q.free = upN N := by
 have h1 := h.perm
 rw [hc] at h1
 have h2 : q.free.Perm (upN N) := by simpa [flat] using h1
 exact List.Perm.eq_of_pairwise (le := (· ≤ ·)) (fun a b _ _ h1 h2 => by omega) h.sorted (upN_sorted N) h2
theorem poll_is_one {l : List UInt8} {B N : Nat} {q q2 : QQ} {x y E : Int} {c : QCh} {a n : Nat} (h : PollSpec l B N q q2 x y E) (hc : q.chains = [c]) (hu : usedI l B N = (q.last + 1) % 65536) (hla : q.last < 65536) (ha : usedE l B N q.last 0 = a) (hn : usedE l B N q.last 4 = n) (hi : isUsed a n c = true) :
 q2 = relQ { q with last := (q.last + 1) % 65536 } 0 ∧ x = (a : Nat) ∧ y = (n : Nat) ∧ E = 0 := by
 have hah : aheadQ l B N q = 1 := by unfold aheadQ; rw [hu]; omega
 rcases h with ⟨e, _⟩ | ⟨e, _⟩ | ⟨_, _, e, _⟩ | ⟨_, _, i, d, e1, e2, e3, e4, e5, e6⟩
 · omega
 · rw [hc, hah] at e; simp at e
 · have := e c (by rw [hc]; simp)
   rw [ha, hn, hi] at this
   cases this
 · rw [hc] at e1
   have hi0 : i = 0 := by
    have h1 := (List.getElem?_eq_some_iff.1 e1).1
    simp at h1
    exact h1
   subst hi0
   exact ⟨e3, by rw [e4, ha], by rw [e5, hn], e6⟩
theorem poll_is_none {l : List UInt8} {B N : Nat} {q q2 : QQ} {x y E : Int} (h : PollSpec l B N q q2 x y E) (ha : aheadQ l B N q = 0) : q2 = q ∧ x = 0 ∧ y = 0 ∧ E = 7 := by
 rcases h with ⟨_, h⟩ | ⟨e, _⟩ | ⟨e, _⟩ | ⟨e, _⟩
 · exact h
 · omega
 · omega
 · omega
theorem poll_is_far {l : List UInt8} {B N : Nat} {q q2 : QQ} {x y E : Int} (h : PollSpec l B N q q2 x y E) (ha : q.chains.length < aheadQ l B N q) : q2 = { q with last := usedI l B N } ∧ x = 0 ∧ y = 0 ∧ E = 80 := by
 rcases h with ⟨e, _⟩ | ⟨_, h⟩ | ⟨_, e, _⟩ | ⟨_, e, _⟩
 · omega
 · exact h
 · omega
 · omega
theorem new_this (v : Value) (l : List UInt8) (B N : Nat) (w : World) (hv : OwnB 0 w v l) (hok : RingOk l.length B N) (b z : Int) (n : Nat) (e1 : ((B : Nat) : Int) = b) (e2 : ((N : Nat) : Int) = z) (e3 : l.length = n) :
 Calls Tryz.prog 7 #[.agg #[v], .int .i64 b, .int .i64 z] w fun e w' => ∃ ra rc F C, e = .returned (.tuple #[.agg #[.slice ra n rc], .agg #[.int .i64 b, .int .i64 z, F, .int .u16 0, .int .u16 0, C], .int .i64 0]) ∧ OwnB 0 w' (.slice ra n rc) (zeroM l B N) ∧ IsQ 0 w' F C (newQ B N) [] ∧ Below w.heap.size w w' := by
 subst e1
 subst e2
 subst e3
 refine (queNew_any v l B N w hv hok).mono ?_
 rintro e w' ⟨ra, rc, F, C, rfl, h1, h2, h3⟩
 exact ⟨ra, rc, F, C, rfl, ownsRow_base h1 (Nat.zero_le _), h2.base (Nat.zero_le _), h3⟩
theorem serve_this (b n : Int) (w : World)  :
 Calls Tryz.prog 8 #[.int .i64 b, .int .i64 n] w fun e w' => e = .returned (.agg #[.int .i64 b, .int .i64 n, .int .u16 0, .int .u16 0]) ∧ Below w.heap.size w w' := by
 exact serve_any b n w
theorem check_this (q : QQ) (N : Nat) (F C : Value) (D : List Value) (w : World) (hq : IsQ 0 w F C q D) (hg : GoodQ q N) (b z A La : Int) (e1 : q.base = b) (e2 : q.size = z) (e3 : ((q.avail : Nat) : Int) = A) (e4 : ((q.last : Nat) : Int) = La) :
 Calls Tryz.prog 15 #[.agg #[.int .i64 b, .int .i64 z, F, .int .u16 A, .int .u16 La, C]] w fun e w' => e = .returned (.bool true) ∧ Below w.heap.size w w' := by
 subst e1
 subst e2
 subst e3
 subst e4
 exact queCheck_any q N F C D w hq hg
theorem add_this (q : QQ) (N bq : Nat) (F C v bv : Value) (D : List Value) (l : List UInt8) (bs : List QB) (w : World) (hv : OwnB 0 w v l) (hq : IsQ 0 w F C q D) (hbf : OwnBf 0 w bv bs) (hg : GoodQ q N) (hbq : q.base = (bq : Nat)) (hok : RingOk l.length bq N) (h1 : 1 ≤ bs.length) (h2 : bs.length ≤ q.free.length) (h4 : bs.length ≤ N) (h3 : ∀ x ∈ bs, InB l.length x) (b z A La A2 H : Int) (n : Nat) (e1 : q.base = b) (e2 : q.size = z) (e3 : ((q.avail : Nat) : Int) = A) (e4 : ((q.last : Nat) : Int) = La) (e5 : (((q.avail + 1) % 65536 : Nat) : Int) = A2) (e6 : q.free.getD 0 0 = H) (e7 : l.length = n) :
 Calls Tryz.prog 9 #[.agg #[v], .agg #[.int .i64 b, .int .i64 z, F, .int .u16 A, .int .u16 La, C], bv] w fun e w' => ∃ ra rc F2 C2 D2, e = .returned (.tuple #[.agg #[.slice ra n rc], .agg #[.int .i64 b, .int .i64 z, F2, .int .u16 A2, .int .u16 La, C2], .int .i64 H, .int .i64 0]) ∧ OwnB 0 w' (.slice ra n rc) (addM l bq N q bs) ∧ IsQ 0 w' F2 C2 (addQ q bs) D2 ∧ Below w.heap.size w w' := by
 subst e1
 subst e2
 subst e3
 subst e4
 subst e5
 subst e6
 subst e7
 exact add_ok q N bq F C v bv D l bs w hv hq hbf hg hbq hok h1 h2 h4 h3
theorem full_this (q : QQ) (N bq : Nat) (F C v bv : Value) (D : List Value) (l : List UInt8) (bs : List QB) (w : World) (hv : OwnB 0 w v l) (hq : IsQ 0 w F C q D) (hbf : OwnBf 0 w bv bs) (hg : GoodQ q N) (hbq : q.base = (bq : Nat)) (hok : RingOk l.length bq N) (h1 : 1 ≤ bs.length) (h2 : q.free.length < bs.length) (h4 : bs.length ≤ N) (h3 : ∀ x ∈ bs, InB l.length x) (b z A La : Int) (n : Nat) (e1 : q.base = b) (e2 : q.size = z) (e3 : ((q.avail : Nat) : Int) = A) (e4 : ((q.last : Nat) : Int) = La) (e7 : l.length = n) :
 Calls Tryz.prog 9 #[.agg #[v], .agg #[.int .i64 b, .int .i64 z, F, .int .u16 A, .int .u16 La, C], bv] w fun e w' => ∃ ra rc F2 C2 D2, e = .returned (.tuple #[.agg #[.slice ra n rc], .agg #[.int .i64 b, .int .i64 z, F2, .int .u16 A, .int .u16 La, C2], .int .i64 0, .int .i64 4]) ∧ OwnB 0 w' (.slice ra n rc) l ∧ IsQ 0 w' F2 C2 q D2 ∧ Below w.heap.size w w' := by
 subst e1
 subst e2
 subst e3
 subst e4
 subst e7
 exact add_full q N bq F C v bv D l bs w hv hq hbf hg hbq hok h1 h2 h4 h3
theorem next_this (N bq se us idx hd : Nat) (v : Value) (l : List UInt8) (ds : List Int) (bs : List QB) (w : World) (hv : OwnB 0 w v l) (hok : RingOk l.length bq N) (hch : Chained l bq ds bs) (hds : ∀ d ∈ ds, 0 ≤ d ∧ d < (N : Int)) (hl : ds.length = bs.length) (h1 : 1 ≤ bs.length) (h2 : bs.length ≤ N) (h3 : ∀ x ∈ bs, InB l.length x) (hhd : (hd : Int) = ds.getD 0 0) (hse : se < 65536) (hix : numAt l (bq + 16 * N + 2) 2 = idx) (hne : idx ≠ se) (hat : numAt l (bq + 16 * N + 4 + 2 * (se % N)) 2 = hd) (b z SE US S2 HD : Int) (m : Nat) (e1 : ((bq : Nat) : Int) = b) (e2 : ((N : Nat) : Int) = z) (e3 : ((se : Nat) : Int) = SE) (e4 : ((us : Nat) : Int) = US) (e5 : (((se + 1) % 65536 : Nat) : Int) = S2) (e6 : ((hd : Nat) : Int) = HD) (e7 : bs.length = m) :
 Calls Tryz.prog 11 #[.agg #[v], .agg #[.int .i64 b, .int .i64 z, .int .u16 SE, .int .u16 US]] w fun e w' => ∃ ra rc, e = .returned (.tuple #[.agg #[.int .i64 b, .int .i64 z, .int .u16 S2, .int .u16 US], .int .i64 HD, .slice ra m rc, .int .i64 0]) ∧ OwnBf 0 w' (.slice ra m rc) bs ∧ Below w.heap.size w w' := by
 subst e1
 subst e2
 subst e3
 subst e4
 subst e5
 subst e6
 subst e7
 refine (next_ok N bq se us idx hd v l ds bs w hv hok hch hds hl h1 h2 h3 hhd hse hix hne hat).mono ?_
 rintro e w' ⟨r, rfl, h5, h6⟩
 obtain ⟨ra, rc, rfl, _, _⟩ := h5.shape
 exact ⟨ra, rc, rfl, h5, h6⟩
theorem give_this (N bq se us hd n : Nat) (v : Value) (l : List UInt8) (w : World) (hv : OwnB 0 w v l) (hok : RingOk l.length bq N) (hus : us < 65536) (hh : hd ≤ 2147483647) (hn : n ≤ 2147483647) (b z SE US U2 HD NN : Int) (m : Nat) (e1 : ((bq : Nat) : Int) = b) (e2 : ((N : Nat) : Int) = z) (e3 : ((se : Nat) : Int) = SE) (e4 : ((us : Nat) : Int) = US) (e5 : (((us + 1) % 65536 : Nat) : Int) = U2) (e6 : ((hd : Nat) : Int) = HD) (e7 : ((n : Nat) : Int) = NN) (e8 : l.length = m) :
 Calls Tryz.prog 18 #[.agg #[v], .agg #[.int .i64 b, .int .i64 z, .int .u16 SE, .int .u16 US], .int .i64 HD, .int .i64 NN] w fun e w' => ∃ ra rc, e = .returned (.tuple #[.agg #[.slice ra m rc], .agg #[.int .i64 b, .int .i64 z, .int .u16 SE, .int .u16 U2], .int .i64 0]) ∧ OwnB 0 w' (.slice ra m rc) (returnD l bq N us hd n) ∧ Below w.heap.size w w' := by
 subst e1
 subst e2
 subst e3
 subst e4
 subst e5
 subst e6
 subst e7
 subst e8
 exact give_ok N bq se us hd n v l w hv hok hus hh hn
theorem poll_this (q : QQ) (N bq : Nat) (F C v : Value) (D : List Value) (l : List UInt8) (w : World) (hv : OwnB 0 w v l) (hq : IsQ 0 w F C q D) (hg : GoodQ q N) (hbq : q.base = (bq : Nat)) (hok : RingOk l.length bq N) (q3 : QQ) (x3 y3 E3 : Int) (hp : ∀ q2 x y E, PollSpec l bq N q q2 x y E → q2 = q3 ∧ x = x3 ∧ y = y3 ∧ E = E3) (b z A La A3 L3 : Int) (e1 : q.base = b) (e2 : q.size = z) (e3 : ((q.avail : Nat) : Int) = A) (e4 : ((q.last : Nat) : Int) = La) (e5 : ((q3.avail : Nat) : Int) = A3) (e6 : ((q3.last : Nat) : Int) = L3) (c1 : q3.base = q.base) (c2 : q3.size = q.size) :
 Calls Tryz.prog 14 #[.agg #[v], .agg #[.int .i64 b, .int .i64 z, F, .int .u16 A, .int .u16 La, C]] w fun e w' => ∃ F2 C2 D2, e = .returned (.tuple #[.agg #[.int .i64 b, .int .i64 z, F2, .int .u16 A3, .int .u16 L3, C2], .int .i64 x3, .int .i64 y3, .int .i64 E3]) ∧ IsQ 0 w' F2 C2 q3 D2 ∧ Below w.heap.size w w' := by
 subst e1
 subst e2
 subst e3
 subst e4
 subst e5
 subst e6
 refine (poll_any q N bq F C v D l w hv hq hg hbq hok).mono ?_
 rintro e w' ⟨q2, x, y, E, F2, C2, D2, rfl, h1, h2, h3⟩
 obtain ⟨rfl, rfl, rfl, rfl⟩ := hp _ _ _ _ h1
 exact ⟨F2, C2, D2, by rw [c1, c2], h2, h3⟩
theorem buf_row (w : World) (a n : Int) (b : Bool) : OwnBf 0 (w.alloc (.cells #[.int .i64 a, .int .i64 n, .bool b] 39)) (.slice (some ⟨w.heap.size, 0, none⟩) 1 1) [(a, n, b)] :=
 World.ownsRow_lit (base := 0) (e := 39) (size := 3) w #[.int .i64 a, .int .i64 n, .bool b] 1 (Nat.zero_le _) (by unfold maxLen; omega) rfl
theorem buf_rows (w : World) (a n : Int) (b : Bool) (c m : Int) (d : Bool) : OwnBf 0 (w.alloc (.cells #[.int .i64 a, .int .i64 n, .bool b, .int .i64 c, .int .i64 m, .bool d] 39)) (.slice (some ⟨w.heap.size, 0, none⟩) 2 2) [(a, n, b), (c, m, d)] :=
 World.ownsRow_lit (base := 0) (e := 39) (size := 3) w #[.int .i64 a, .int .i64 n, .bool b, .int .i64 c, .int .i64 m, .bool d] 2 (Nat.zero_le _) (by unfold maxLen; omega) rfl
theorem IsQ.freeLen {B : Nat} {w : World} {F C : Value} {q : QQ} {D : List Value} (h : IsQ B w F C q D) {n : Nat} (hn : q.free.length = n) : ∃ a c, F = .slice a n c := by
 obtain ⟨a, c, rfl, _⟩ := h.free.shape
 exact ⟨a, c, by rw [hn]⟩
theorem IsQ.chainLen {B : Nat} {w : World} {F C : Value} {q : QQ} {D : List Value} (h : IsQ B w F C q D) {n : Nat} (hn : q.chains.length = n) : ∃ a c, C = .slice a n c := by
 obtain ⟨a, c, rfl, _⟩ := h.chains.shape
 exact ⟨a, c, by rw [hn]⟩
end Go.Proofs.YtnmekbbnglkmcaaGreat
namespace Go.Proofs.YtnmekbbnglkmcaaGreat
open Go.RowKit Go.Lib
def hbs : List QB := [(150, 4, false), (160, 8, true)]
def hq0 : QQ := newQ 0 4
def hq1 : QQ := addQ hq0 hbs
def hq2 : QQ := relQ { hq1 with last := 1 } 0
theorem hq0_free : hq0.free = [0, 1, 2, 3] := by decide
theorem hq1_free : hq1.free = [2, 3] := by decide
theorem hq1_chains : hq1.chains = [⟨0, [0, 1], 8⟩] := rfl
theorem hok4 (k : List UInt8) (h : k.length = 200) : RingOk k.length 0 4 := ⟨by omega, .inr (.inr (.inl rfl)), by rw [h]; decide⟩
theorem hgood0 : GoodQ hq0 4 := newQ_good (.inr (.inr (.inl rfl))) (by decide)
theorem hgood1 : GoodQ hq1 4 := addQ_good hgood0 (by decide) (by decide) (by decide)
theorem hgood2 : GoodQ hq2 4 := relQ_good (hgood1.seen (by decide)) (by rw [show ({ hq1 with last := 1 } : QQ).chains = hq1.chains from rfl, hq1_chains]; decide)
theorem hq2_chains : hq2.chains = [] := by
 show hq1.chains.eraseIdx 0 = []
 rw [hq1_chains]
 rfl
theorem hq2_free : hq2.free.length = 4 := by rw [good_empty hgood2 hq2_chains, upN_length]
theorem hbs_in (k : List UInt8) (h : k.length = 200) : ∀ x ∈ hbs, InB k.length x := by
 rw [h]
 intro x hx
 simp [hbs] at hx
 rcases hx with rfl | rfl <;> exact ⟨by decide, by decide, by decide⟩
theorem hq0_len : hq0.free.length = 4 := by rw [hq0_free]; rfl
theorem hq1_len : hq1.free.length = 2 := by rw [hq1_free]; rfl
theorem hq1_clen : hq1.chains.length = 1 := by rw [hq1_chains]; rfl
theorem hq2_clen : hq2.chains.length = 0 := by rw [hq2_chains]; rfl
structure QHeads (l G1 G2 : List UInt8) : Prop where
 n0 : l.length = 200
 n1 : G1.length = 200
 n2 : G2.length = 200
 ch : Chained G1 0 [0, 1] hbs
 ix : numAt G1 (0 + 16 * 4 + 2) 2 = 1
 at0 : numAt G1 (0 + 16 * 4 + 4 + 2 * (0 % 4)) 2 = 0
 p1 : ∀ q2 x y E, PollSpec G2 0 4 hq1 q2 x y E → q2 = hq2 ∧ x = 0 ∧ y = 5 ∧ E = 0
 p2 : ∀ q2 x y E, PollSpec G2 0 4 hq2 q2 x y E → q2 = hq2 ∧ x = 0 ∧ y = 0 ∧ E = 7
 p3 : ∀ q2 x y E, PollSpec G2 0 4 hq0 q2 x y E → q2 = { hq0 with last := 1 } ∧ x = 0 ∧ y = 0 ∧ E = 80
theorem qheads_plain (l G1 G2 : List UInt8) (hl : l.length = 200) (h1 : addM l 0 4 hq0 hbs = G1) (h2 : returnD G1 0 4 0 0 5 = G2) : QHeads l G1 G2 := by
 have n1 : G1.length = 200 := by rw [← h1, addM_length (hok4 l hl) hgood0 (by decide), hl]
 have n2 : G2.length = 200 := by rw [← h2, returnD_length _ _ _ (hok4 G1 n1), n1]
 have hus : usedI G2 0 4 = 1 := by
  unfold usedI
  rw [← h2, returnD_index 0 0 5 (hok4 G1 n1)]
 have he := returnD_entry (l := G1) (B := 0) (N := 4) 0 0 0 5 rfl (by decide) (by decide) (hok4 G1 n1)
 rw [h2] at he
 have hll : (layK l 0 (hq0.free.take hbs.length) hbs hbs.length).length = 200 := by
  rw [layK_length (hok4 l hl) (fun d hd => hgood0.freeIn (List.mem_of_mem_take hd)) hbs.length (by decide), hl]
 have hav : hq0.avail = 0 := rfl
 have hfr : (hq0.free.getD 0 0).toNat = 0 := by decide
 refine ⟨hl, n1, n2, ?_, ?_, ?_, ?_, ?_, ?_⟩
 · have h := addM_chained (bs := hbs) (hok4 l hl) hgood0 (by decide) (hbs_in l hl)
   rw [h1] at h
   exact h
 · rw [← h1, addM, offerD_index _ _ (hok4 _ hll), hav]
 · rw [← h1, addM, hav, hfr, offerD_entry 0 0 0 rfl (by decide) (hok4 _ hll)]
 · intro q2 x y E h
   obtain ⟨e1, e2, e3, e4⟩ := poll_is_one (a := 0) (n := 5) h hq1_chains (by rw [hus]; rfl) (by decide) he.1 he.2 (by decide)
   exact ⟨e1, e2, e3, e4⟩
 · intro q2 x y E h
   exact poll_is_none h (by unfold aheadQ; rw [hus]; decide)
 · intro q2 x y E h
   obtain ⟨e1, e2, e3, e4⟩ := poll_is_far h (by unfold aheadQ; rw [hus]; decide)
   rw [hus] at e1
   exact ⟨e1, e2, e3, e4⟩
theorem run_zeros200 (W : World) : (Instr.makeSlice 24 (.int .i64 200) (.int .i64 200)).run Tryz.prog W = .ok (.slice (some ⟨W.heap.size, 0, none⟩) 200 200) (W.alloc (.cells (madeCells #[.int .u8 0] 200) 5)) := run_zerosK 200 (by decide) W
structure QueHeadsA where
 (b0 b1 b2 b3 b4 b5 b6 b7 b8 b9 b10 b11 b12 : Bool)
 (s45 s46 s47 s44 s48 s49 s50 s51 s8 s9 s10 s11 : Value)
set_option maxHeartbeats 4000000 in
set_option maxRecDepth 100000 in
theorem heads_any (w : World) : Calls Tryz.prog 6 #[] w fun e w' => e = .returned (.bool true) ∧ Below w.heap.size w w' := by
 obtain ⟨l0, hl0⟩ : ∃ l : List UInt8, l = List.replicate 200 0 := ⟨_, rfl⟩
 have hn0 : l0.length = 200 := by rw [hl0]; simp
 obtain ⟨l1, hl1⟩ : ∃ l, zeroM l0 0 4 = l := ⟨_, rfl⟩
 have hn1 : l1.length = 200 := by rw [← hl1, zeroM_length (hok4 l0 hn0), hn0]
 obtain ⟨G1, hg1⟩ : ∃ G, addM l1 0 4 hq0 hbs = G := ⟨_, rfl⟩
 obtain ⟨G2, hg2⟩ : ∃ G, returnD G1 0 4 0 0 5 = G := ⟨_, rfl⟩
 have HF := Lib.hid (qheads_plain l1 G1 G2 hn1 hg1 hg2)
 have HN0 := Lib.hid hn0
 have HL1 := Lib.hid hl1
 have HG1 := Lib.hid hg1
 have HG2 := Lib.hid hg2
 have hzz := zerosK_own w 200 (by decide)
 rw [← hl0] at hzz
 have AM := Lib.hid hzz
 have BW := Lib.hid ((Below.refl w.heap.size w).alloc (Nat.le_refl _) (.cells (madeCells #[.int .u8 0] 200) 5))
 have hmk := run_zeros200
 clear hl0 hn0 hl1 hn1 hg1 hg2 hzz
 go_enter Tryz.func6, Tryz.ntmps6
 go_wp2_with fail
 refine (new_this _ l0 0 4 _ AM.out (hok4 _ HN0.out) 0 4 200 rfl rfl HN0.out).mono ?_
 rintro e w1 ⟨aa, ca, Fa, Ca, rfl, hm, hq, hb⟩
 clear hmk
 obtain ⟨fa, pfa, rfl⟩ := hq.freeLen hq0_len
 obtain ⟨xa, pxa, rfl⟩ := hq.chainLen (show hq0.chains.length = 0 from rfl)
 replace AM := Lib.hid (AM.out.below hb)
 replace BW := Lib.hid (BW.out.trans (hb.mono BW.out.size))
 have Aa := Lib.hid hm
 clear hm
 have Qa := Lib.hid hq
 clear hq
 clear hb
 rw [HL1.out] at Aa
 clear AM
 have hbx : Below (w1).heap.size (w1) ((w1).alloc (.cells #[.slice aa 200 ca] 26)) := (Below.refl _ _).alloc (Nat.le_refl _) _
 replace BW := Lib.hid (BW.out.trans (hbx.mono BW.out.size))
 replace Aa := Lib.hid (Aa.out.below hbx)
 replace Qa := Lib.hid (Qa.out.below hbx)
 have Rm := Lib.hid (heap_alloc_new (w1) (.cells #[.slice aa 200 ca] 26))
 clear hbx
 have hbx : Below ((w1).alloc (.cells #[.slice aa 200 ca] 26)).heap.size ((w1).alloc (.cells #[.slice aa 200 ca] 26)) (((w1).alloc (.cells #[.slice aa 200 ca] 26)).alloc (.cells #[.int .i64 0, .int .i64 4, .slice fa 4 pfa, .int .u16 0, .int .u16 0, .slice xa 0 pxa] 30)) := (Below.refl _ _).alloc (Nat.le_refl _) _
 replace BW := Lib.hid (BW.out.trans (hbx.mono BW.out.size))
 replace Aa := Lib.hid (Aa.out.below hbx)
 replace Qa := Lib.hid (Qa.out.below hbx)
 replace Rm := Lib.hid (row_keep Rm.out hbx)
 have Rq := Lib.hid (heap_alloc_new ((w1).alloc (.cells #[.slice aa 200 ca] 26)) (.cells #[.int .i64 0, .int .i64 4, .slice fa 4 pfa, .int .u16 0, .int .u16 0, .slice xa 0 pxa] 30))
 clear hbx
 have hsz : ((w1).alloc (.cells #[.slice aa 200 ca] 26)).heap.size = w1.heap.size + 1 := by simp
 rw [hsz] at Rq
 clear hsz
 obtain ⟨lRm0c1, zRm0c1⟩ := at_cell Rm.out 0 _ rfl
 clear zRm0c1
 obtain ⟨lRq0c2, zRq0c2⟩ := at_cell Rq.out 0 _ rfl
 clear zRq0c2
 obtain ⟨lRq1c3, zRq1c3⟩ := at_cell Rq.out 1 _ rfl
 clear zRq1c3
 obtain ⟨lRq2c4, zRq2c4⟩ := at_cell Rq.out 2 _ rfl
 clear zRq2c4
 obtain ⟨lRq3c5, zRq3c5⟩ := at_cell Rq.out 3 _ rfl
 clear zRq3c5
 obtain ⟨lRq4c6, zRq4c6⟩ := at_cell Rq.out 4 _ rfl
 clear zRq4c6
 obtain ⟨lRq5c7, zRq5c7⟩ := at_cell Rq.out 5 _ rfl
 clear zRq5c7
 have hbx : Below (((w1).alloc (.cells #[.slice aa 200 ca] 26)).alloc (.cells #[.int .i64 0, .int .i64 4, .slice fa 4 pfa, .int .u16 0, .int .u16 0, .slice xa 0 pxa] 30)).heap.size (((w1).alloc (.cells #[.slice aa 200 ca] 26)).alloc (.cells #[.int .i64 0, .int .i64 4, .slice fa 4 pfa, .int .u16 0, .int .u16 0, .slice xa 0 pxa] 30)) ((((w1).alloc (.cells #[.slice aa 200 ca] 26)).alloc (.cells #[.int .i64 0, .int .i64 4, .slice fa 4 pfa, .int .u16 0, .int .u16 0, .slice xa 0 pxa] 30)).alloc (.cells #[.int .i64 150, .int .i64 4, .bool false, .int .i64 160, .int .i64 8, .bool true] 39)) := (Below.refl _ _).alloc (Nat.le_refl _) _
 replace BW := Lib.hid (BW.out.trans (hbx.mono BW.out.size))
 replace Aa := Lib.hid (Aa.out.below hbx)
 replace Qa := Lib.hid (Qa.out.below hbx)
 replace Rm := Lib.hid (row_keep Rm.out hbx)
 replace Rq := Lib.hid (row_keep Rq.out hbx)
 have hpr := buf_rows (((w1).alloc (.cells #[.slice aa 200 ca] 26)).alloc (.cells #[.int .i64 0, .int .i64 4, .slice fa 4 pfa, .int .u16 0, .int .u16 0, .slice xa 0 pxa] 30)) 150 4 false 160 8 true
 have hsz : (((w1).alloc (.cells #[.slice aa 200 ca] 26)).alloc (.cells #[.int .i64 0, .int .i64 4, .slice fa 4 pfa, .int .u16 0, .int .u16 0, .slice xa 0 pxa] 30)).heap.size = w1.heap.size + 1 + 1 := by simp
 rw [hsz] at hpr
 have BF := Lib.hid hpr
 clear hbx hsz hpr
 go_wp2_with fail
 refine (add_this hq0 4 0 _ _ _ _ [] l1 hbs _ Aa.out Qa.out BF.out hgood0 rfl (hok4 _ HF.out.n0) (by decide) (by decide) (by decide) (hbs_in _ HF.out.n0) 0 4 0 0 1 0 200 rfl rfl rfl rfl rfl (by decide) HF.out.n0).mono ?_
 rintro e w2 ⟨ab, cb, Fb, Cb, Db, rfl, hm, hq, hb⟩
 obtain ⟨fb, pfb, rfl⟩ := hq.freeLen hq1_len
 obtain ⟨xb, pxb, rfl⟩ := hq.chainLen hq1_clen
 clear lRm0c1 lRq0c2 lRq1c3 lRq2c4 lRq3c5 lRq4c6 lRq5c7
 replace BW := Lib.hid (BW.out.trans (hb.mono BW.out.size))
 replace Aa := Lib.hid (Aa.out.below hb)
 replace Qa := Lib.hid (Qa.out.below hb)
 replace Rm := Lib.hid (row_keep Rm.out hb)
 replace Rq := Lib.hid (row_keep Rq.out hb)
 replace BF := Lib.hid (BF.out.below hb)
 have Ab := Lib.hid hm
 clear hm
 have Qb := Lib.hid hq
 clear hq
 clear hb
 rw [HG1.out] at Ab
 clear BF Aa
 have hbx : Below (w2).heap.size (w2) ((w2).alloc (.cells #[.slice ab 200 cb] 26)) := (Below.refl _ _).alloc (Nat.le_refl _) _
 replace BW := Lib.hid (BW.out.trans (hbx.mono BW.out.size))
 replace Qa := Lib.hid (Qa.out.below hbx)
 replace Rm := Lib.hid (row_keep Rm.out hbx)
 replace Rq := Lib.hid (row_keep Rq.out hbx)
 replace Ab := Lib.hid (Ab.out.below hbx)
 replace Qb := Lib.hid (Qb.out.below hbx)
 have Rd := Lib.hid (heap_alloc_new (w2) (.cells #[.slice ab 200 cb] 26))
 clear hbx
 have hbx : Below ((w2).alloc (.cells #[.slice ab 200 cb] 26)).heap.size ((w2).alloc (.cells #[.slice ab 200 cb] 26)) (((w2).alloc (.cells #[.slice ab 200 cb] 26)).alloc (.cells #[.int .i64 0, .int .i64 4, .slice fb 2 pfb, .int .u16 1, .int .u16 0, .slice xb 1 pxb] 30)) := (Below.refl _ _).alloc (Nat.le_refl _) _
 replace BW := Lib.hid (BW.out.trans (hbx.mono BW.out.size))
 replace Qa := Lib.hid (Qa.out.below hbx)
 replace Rm := Lib.hid (row_keep Rm.out hbx)
 replace Rq := Lib.hid (row_keep Rq.out hbx)
 replace Ab := Lib.hid (Ab.out.below hbx)
 replace Qb := Lib.hid (Qb.out.below hbx)
 replace Rd := Lib.hid (row_keep Rd.out hbx)
 have Re := Lib.hid (heap_alloc_new ((w2).alloc (.cells #[.slice ab 200 cb] 26)) (.cells #[.int .i64 0, .int .i64 4, .slice fb 2 pfb, .int .u16 1, .int .u16 0, .slice xb 1 pxb] 30))
 clear hbx
 have hsz : ((w2).alloc (.cells #[.slice ab 200 cb] 26)).heap.size = w2.heap.size + 1 := by simp
 rw [hsz] at Re
 clear hsz
 go_wp2_with fail
 obtain ⟨wd, hwd⟩ : ∃ x, x = ((w2).alloc (.cells #[.slice ab 200 cb] 26)).alloc (.cells #[.int .i64 0, .int .i64 4, .slice fb 2 pfb, .int .u16 1, .int .u16 0, .slice xb 1 pxb] 30) := ⟨_, rfl⟩
 rw [← hwd] at BW Qa Rm Rq Ab Qb Rd Re ⊢
 clear hwd
 have HDW := Lib.hid (show w.heap.size ≤ wd.heap.size from BW.out.size)
 have HNX := Lib.hid (show ∀ W, Below wd.heap.size wd W → Calls Tryz.prog 11 #[.agg #[.slice ab 200 cb], .agg #[.int .i64 0, .int .i64 4, .int .u16 0, .int .u16 0]] W fun e w' => ∃ ra rc, e = .returned (.tuple #[.agg #[.int .i64 0, .int .i64 4, .int .u16 1, .int .u16 0], .int .i64 0, .slice ra 2 rc, .int .i64 0]) ∧ OwnBf 0 w' (.slice ra 2 rc) hbs ∧ Below W.heap.size W w' from fun W hb => next_this 4 0 0 0 1 0 _ G1 [0, 1] hbs W (Ab.out.below hb) (hok4 _ HF.out.n1) HF.out.ch (by decide) rfl (by decide) (by decide) (hbs_in _ HF.out.n1) rfl (by decide) HF.out.ix (by decide) HF.out.at0 0 4 0 0 1 0 2 rfl rfl rfl rfl rfl rfl rfl)
 refine wp_region_rec (X := QueHeadsA) (by kernel_rfl) (by kernel_rfl) (fun x => #[x.b0, x.b1, x.b2, x.b3, x.b4, x.b5, x.b6, x.b7, x.b8, x.b9, x.b10, x.b11, x.b12]) (fun x => { tmps := List.toArray ((.bool false) :: (.pointer (some ⟨w1.heap.size, 0, none⟩)) :: (.pointer (some ⟨w1.heap.size + 1, 0, none⟩)) :: (.int .i64 0) :: (.pointer (some ⟨w2.heap.size, 0, none⟩)) :: (.pointer (some ⟨w2.heap.size + 1, 0, none⟩)) :: (.int .i64 0) :: (.int .i64 0) :: x.s8 :: x.s9 :: x.s10 :: x.s11 :: undef :: undef :: undef :: undef :: undef :: undef :: undef :: undef :: undef :: undef :: undef :: undef :: undef :: undef :: (.tuple #[.agg #[.slice aa 200 ca], .agg #[.int .i64 0, .int .i64 4, .slice fa 4 pfa, .int .u16 0, .int .u16 0, .slice xa 0 pxa], .int .i64 0]) :: (.slice (some ⟨w.heap.size, 0, none⟩) 200 200) :: (.agg #[.slice (some ⟨w.heap.size, 0, none⟩) 200 200]) :: (.tuple #[.agg #[.slice aa 200 ca], .agg #[.int .i64 0, .int .i64 4, .slice fa 4 pfa, .int .u16 0, .int .u16 0, .slice xa 0 pxa], .int .i64 0]) :: (.agg #[.slice aa 200 ca]) :: (.agg #[.int .i64 0, .int .i64 4, .slice fa 4 pfa, .int .u16 0, .int .u16 0, .slice xa 0 pxa]) :: (.int .i64 0) :: (.tuple #[.agg #[.slice ab 200 cb], .agg #[.int .i64 0, .int .i64 4, .slice fb 2 pfb, .int .u16 1, .int .u16 0, .slice xb 1 pxb], .int .i64 0, .int .i64 0]) :: (.agg #[.slice aa 200 ca]) :: (.agg #[.int .i64 0, .int .i64 4, .slice fa 4 pfa, .int .u16 0, .int .u16 0, .slice xa 0 pxa]) :: (.agg #[.int .i64 150, .int .i64 4, .bool false]) :: (.agg #[.int .i64 160, .int .i64 8, .bool true]) :: (.slice (some ⟨w1.heap.size + 1 + 1, 0, none⟩) 2 2) :: (.tuple #[.agg #[.slice ab 200 cb], .agg #[.int .i64 0, .int .i64 4, .slice fb 2 pfb, .int .u16 1, .int .u16 0, .slice xb 1 pxb], .int .i64 0, .int .i64 0]) :: (.agg #[.slice ab 200 cb]) :: (.agg #[.int .i64 0, .int .i64 4, .slice fb 2 pfb, .int .u16 1, .int .u16 0, .slice xb 1 pxb]) :: (.int .i64 0) :: (.int .i64 0) :: x.s44 :: x.s45 :: x.s46 :: x.s47 :: x.s48 :: x.s49 :: x.s50 :: x.s51 :: undef :: undef :: undef :: undef :: undef :: undef :: undef :: undef :: undef :: undef :: undef :: undef :: undef :: undef :: undef :: undef :: undef :: undef :: undef :: undef :: undef :: undef :: undef :: undef :: undef :: undef :: undef :: undef :: undef :: undef :: undef :: undef :: undef :: undef :: undef :: undef :: undef :: undef :: undef :: undef :: undef :: undef :: undef :: undef :: undef :: undef :: undef :: undef :: undef :: undef :: undef :: undef :: undef :: undef :: undef :: undef :: undef :: undef :: undef :: undef :: undef :: undef :: undef :: undef :: undef :: undef :: undef :: undef :: undef :: undef :: undef :: undef :: undef :: undef :: undef :: undef :: undef :: undef :: undef :: undef :: undef :: undef :: undef :: undef :: undef :: undef :: undef :: undef :: undef :: undef :: undef :: undef :: undef :: undef :: undef :: undef :: undef :: undef :: undef :: undef :: undef :: undef :: undef :: undef :: undef :: undef :: []), defers := [] }) (fun x W => (x.b0 = true → x.s45 = .agg #[.slice ab 200 cb]) ∧ (x.b1 = true → x.s46 = .agg #[.int .i64 0, .int .i64 4, .int .u16 0, .int .u16 0]) ∧ (x.b3 = true → x.s44 = x.s47) ∧ (x.b4 = true → x.s48 = .agg #[.int .i64 0, .int .i64 4, .int .u16 1, .int .u16 0]) ∧ (x.b5 = true → x.s49 = .int .i64 0) ∧ (x.b7 = true → x.s51 = .int .i64 0) ∧ (x.b10 = true → x.s9 = .int .i64 0) ∧ (x.b11 = true → x.s10 = x.s50) ∧ (x.b12 = true → x.s11 = .int .i64 0) ∧ (x.b3 = true → x.b1 = true ∧ x.b2 = true) ∧ (x.b11 = true → x.b6 = true) ∧ (x.b2 = true → x.b1 = true) ∧ (x.b6 = true → x.b1 = true ∧ x.b2 = true) ∧ (x.b9 = true → x.b1 = true ∧ x.b2 = true ∧ x.b8 = true) ∧ (W.heap[w2.heap.size]? = some (.cells #[.slice ab 200 cb] 26 (0, 0))) ∧ (Below wd.heap.size wd W) ∧ (x.b2 = true → ∃ ra rc, x.s47 = .tuple #[.agg #[.int .i64 0, .int .i64 4, .int .u16 1, .int .u16 0], .int .i64 0, .slice ra 2 rc, .int .i64 0] ∧ OwnBf 0 W (.slice ra 2 rc) hbs) ∧ (x.b6 = true → ∃ ra rc, x.s50 = .slice ra 2 rc ∧ OwnBf 0 W (.slice ra 2 rc) hbs) ∧ (x.b9 = false → x.b8 = true → ∃ gu, x.s8 = .pointer (some ⟨gu, 0, none⟩) ∧ wd.heap.size ≤ gu ∧ W.heap[gu]? = some (.cells #[.int .i64 0, .int .i64 0, .int .u16 0, .int .u16 0] 35 (0, 0))) ∧ (x.b9 = true → ∃ gu, x.s8 = .pointer (some ⟨gu, 0, none⟩) ∧ wd.heap.size ≤ gu ∧ W.heap[gu]? = some (.cells #[.int .i64 0, .int .i64 4, .int .u16 1, .int .u16 0] 35 (0, 0)))) ⟨false, false, false, false, false, false, false, false, false, false, false, false, false, undef, undef, undef, undef, undef, undef, undef, undef, undef, undef, undef, undef⟩ rfl rfl ⟨(fun h => by cases h), (fun h => by cases h), (fun h => by cases h), (fun h => by cases h), (fun h => by cases h), (fun h => by cases h), (fun h => by cases h), (fun h => by cases h), (fun h => by cases h), (fun h => by cases h), (fun h => by cases h), (fun h => by cases h), (fun h => by cases h), (fun h => by cases h), Rd.out, (Below.refl _ _).drew, (fun h => by cases h), (fun h => by cases h), (fun _ h => by cases h), (fun h => by cases h)⟩ (fun _ => rfl) ?hstep ?hdone
 case hstep =>
  rintro ⟨b0, b1, b2, b3, b4, b5, b6, b7, b8, b9, b10, b11, b12, s45, s46, s47, s44, s48, s49, s50, s51, s8, s9, s10, s11⟩ W hI i hi
  dsimp only at hI hi ⊢
  have HI := Lib.hid hI
  clear hI
  rw [Region.ready, List.mem_filter, List.mem_range] at hi
  obtain ⟨hlt, hp⟩ := hi
  have hi7 : i = 0 ∨ i = 1 ∨ i = 2 ∨ i = 3 ∨ i = 4 ∨ i = 5 ∨ i = 6 ∨ i = 7 ∨ i = 8 ∨ i = 9 ∨ i = 10 ∨ i = 11 ∨ i = 12 := by simp at hlt; omega
  clear hlt
  rcases hi7 with rfl | rfl | rfl | rfl | rfl | rfl | rfl | rfl | rfl | rfl | rfl | rfl | rfl
  all_goals simp [Region.binds] at hp
  · obtain rfl : b0 = false := by revert hp; cases b0 <;> simp
    clear hp
    refine inv_op (o := ⟨some 45, _, _, _, _, _⟩) rfl (fun K' hK' => ?_)
    have rD := HI.out.2.2.2.2.2.2.2.2.2.2.2.2.2.2.1
    obtain ⟨hc0, _⟩ := at_cell rD 0 _ rfl
    go_simp
    exact hK'.out _ _ ⟨.mk .., rfl, rfl, (Upd (fun _ => rfl)) HI.out⟩
  · obtain rfl : b1 = false := by revert hp; cases b1 <;> simp
    clear hp
    refine inv_op (o := ⟨some 46, _, _, _, _, _⟩) rfl (fun K' hK' => ?_)
    have gi3 := HI.out.2.2.2.2.2.2.2.2.2.1
    have gi2 := HI.out.2.2.2.2.2.2.2.2.2.2.2.1
    have gi6 := HI.out.2.2.2.2.2.2.2.2.2.2.2.2.1
    have gi9 := HI.out.2.2.2.2.2.2.2.2.2.2.2.2.2.1
    have hbf3 : b3 = false := by cases b3 with | false => rfl | true => exact absurd ((gi3 rfl).1) (by decide)
    subst hbf3
    have hbf2 : b2 = false := by cases b2 with | false => rfl | true => exact absurd ((gi2 rfl)) (by decide)
    subst hbf2
    have hbf6 : b6 = false := by cases b6 with | false => rfl | true => exact absurd ((gi6 rfl).1) (by decide)
    subst hbf6
    have hbf9 : b9 = false := by cases b9 with | false => rfl | true => exact absurd ((gi9 rfl).1) (by decide)
    subst hbf9
    go_simp
    refine (serve_this 0 4 W).mono ?_
    rintro e w2 ⟨rfl, bn⟩
    obtain ⟨h0, h1, h3, h4, h5, h7, h10, h11, h12, gi3, gi11, gi2, gi6, gi9, rD, gB, gP, gX, gA, gS⟩ := HI.out
    exact hK'.out _ _ ⟨.mk .., rfl, rfl, h0, (fun _ => rfl), h3, h4, h5, h7, h10, h11, h12, (fun e => by cases e), gi11, (fun e => by cases e), (fun e => by cases e), (fun e => by cases e), (row_keep rD bn), (gB.trans (bn.mono gB.size)), (fun e => by cases e), (fun e => by cases e), (fun e e2 => by obtain ⟨gu, h1, h2, h3⟩ := gA e e2; exact ⟨gu, h1, h2, row_keep h3 bn⟩), (fun e => by cases e)⟩
  · obtain ⟨rfl, e0, e1⟩ : b2 = false ∧ b0 = true ∧ b1 = true := by revert hp; cases b2 <;> cases b0 <;> cases b1 <;> simp
    clear hp
    obtain rfl := (HI.out.1) e0
    obtain rfl := (HI.out.2.1) e1
    refine inv_op (o := ⟨some 47, _, _, _, _, _⟩) rfl (fun K' hK' => ?_)
    have gi3 := HI.out.2.2.2.2.2.2.2.2.2.1
    have gi6 := HI.out.2.2.2.2.2.2.2.2.2.2.2.2.1
    have gi9 := HI.out.2.2.2.2.2.2.2.2.2.2.2.2.2.1
    have gB := HI.out.2.2.2.2.2.2.2.2.2.2.2.2.2.2.2.1
    have hbf3 : b3 = false := by cases b3 with | false => rfl | true => exact absurd ((gi3 rfl).2) (by decide)
    subst hbf3
    have hbf6 : b6 = false := by cases b6 with | false => rfl | true => exact absurd ((gi6 rfl).2) (by decide)
    subst hbf6
    have hbf9 : b9 = false := by cases b9 with | false => rfl | true => exact absurd ((gi9 rfl).2.1) (by decide)
    subst hbf9
    go_simp
    refine (HNX.out W gB).mono ?_
    rintro e w2 ⟨ra, rc, rfl, hr, bn⟩
    obtain ⟨h0, h1, h3, h4, h5, h7, h10, h11, h12, gi3, gi11, gi2, gi6, gi9, rD, gB, gP, gX, gA, gS⟩ := HI.out
    exact hK'.out _ _ ⟨.mk .., rfl, rfl, h0, h1, (fun e => by cases ((gi3 e).2)), h4, h5, h7, h10, h11, h12, (fun e => by cases e), gi11, (fun _ => e1), (fun e => by cases e), (fun e => by cases e), (row_keep rD bn), (gB.trans (bn.mono gB.size)), (fun _ => ⟨ra, rc, rfl, hr⟩), (fun e => by cases e), (fun e e2 => by obtain ⟨gu, h1, h2, h3⟩ := gA e e2; exact ⟨gu, h1, h2, row_keep h3 bn⟩), (fun e => by cases e)⟩
  · obtain ⟨rfl, e2⟩ : b3 = false ∧ b2 = true := by revert hp; cases b3 <;> cases b2 <;> simp
    clear hp
    refine inv_op (o := ⟨some 44, _, _, _, _, _⟩) rfl (fun K' hK' => ?_)
    go_simp
    obtain ⟨h0, h1, h3, h4, h5, h7, h10, h11, h12, gi3, gi11, gi2, gi6, gi9, rD, gB, gP, gX, gA, gS⟩ := HI.out
    exact hK'.out _ _ ⟨.mk .., rfl, rfl, h0, h1, (fun _ => rfl), h4, h5, h7, h10, h11, h12, (fun _ => ⟨(gi2 e2), e2⟩), gi11, gi2, gi6, gi9, rD, gB, gP, gX, gA, gS⟩
  · obtain ⟨rfl, e3⟩ : b4 = false ∧ b3 = true := by revert hp; cases b4 <;> cases b3 <;> simp
    clear hp
    obtain rfl := (HI.out.2.2.1) e3
    refine inv_op (o := ⟨some 48, _, _, _, _, _⟩) rfl (fun K' hK' => ?_)
    have gi3 := HI.out.2.2.2.2.2.2.2.2.2.1
    have gP := HI.out.2.2.2.2.2.2.2.2.2.2.2.2.2.2.2.2.1
    obtain ⟨ra, rc, rfl, hp⟩ := gP ((gi3 e3).2)
    go_simp
    exact hK'.out _ _ ⟨.mk .., rfl, rfl, Nx16 (Upd (fun _ => ⟨ra, rc, rfl, hp⟩)) (Nxt (Nxt (Nxt (Upd (fun _ => rfl)))) HI.out)⟩
  · obtain ⟨rfl, e3⟩ : b5 = false ∧ b3 = true := by revert hp; cases b5 <;> cases b3 <;> simp
    clear hp
    obtain rfl := (HI.out.2.2.1) e3
    refine inv_op (o := ⟨some 49, _, _, _, _, _⟩) rfl (fun K' hK' => ?_)
    have gi3 := HI.out.2.2.2.2.2.2.2.2.2.1
    have gP := HI.out.2.2.2.2.2.2.2.2.2.2.2.2.2.2.2.2.1
    obtain ⟨ra, rc, rfl, hp⟩ := gP ((gi3 e3).2)
    go_simp
    exact hK'.out _ _ ⟨.mk .., rfl, rfl, Nx16 (Upd (fun _ => ⟨ra, rc, rfl, hp⟩)) (Nx4 (Upd (fun _ => rfl)) HI.out)⟩
  · obtain ⟨rfl, e3⟩ : b6 = false ∧ b3 = true := by revert hp; cases b6 <;> cases b3 <;> simp
    clear hp
    obtain rfl := (HI.out.2.2.1) e3
    refine inv_op (o := ⟨some 50, _, _, _, _, _⟩) rfl (fun K' hK' => ?_)
    have gi3 := HI.out.2.2.2.2.2.2.2.2.2.1
    have gi11 := HI.out.2.2.2.2.2.2.2.2.2.2.1
    have gP := HI.out.2.2.2.2.2.2.2.2.2.2.2.2.2.2.2.2.1
    have hbf11 : b11 = false := by cases b11 with | false => rfl | true => exact absurd ((gi11 rfl)) (by decide)
    subst hbf11
    obtain ⟨ra, rc, rfl, hp⟩ := gP ((gi3 e3).2)
    go_simp
    obtain ⟨h0, h1, h3, h4, h5, h7, h10, h11, h12, gi3, gi11, gi2, gi6, gi9, rD, gB, gP, gX, gA, gS⟩ := HI.out
    exact hK'.out _ _ ⟨.mk .., rfl, rfl, h0, h1, h3, h4, h5, h7, h10, (fun e => by cases ((gi11 e))), h12, gi3, (fun e => by cases e), gi2, (fun _ => ⟨(gi3 e3).1, (gi3 e3).2⟩), gi9, rD, gB, (fun _ => ⟨ra, rc, rfl, hp⟩), (fun _ => ⟨ra, rc, rfl, hp⟩), gA, gS⟩
  · obtain ⟨rfl, e3⟩ : b7 = false ∧ b3 = true := by revert hp; cases b7 <;> cases b3 <;> simp
    clear hp
    obtain rfl := (HI.out.2.2.1) e3
    refine inv_op (o := ⟨some 51, _, _, _, _, _⟩) rfl (fun K' hK' => ?_)
    have gi3 := HI.out.2.2.2.2.2.2.2.2.2.1
    have gP := HI.out.2.2.2.2.2.2.2.2.2.2.2.2.2.2.2.2.1
    obtain ⟨ra, rc, rfl, hp⟩ := gP ((gi3 e3).2)
    go_simp
    exact hK'.out _ _ ⟨.mk .., rfl, rfl, Nx16 (Upd (fun _ => ⟨ra, rc, rfl, hp⟩)) (Nxt (Nx4 (Upd (fun _ => rfl))) HI.out)⟩
  · obtain rfl : b8 = false := by revert hp; cases b8 <;> simp
    clear hp
    refine inv_op (o := ⟨some 8, _, _, _, _, _⟩) rfl (fun K' hK' => ?_)
    have gi9 := HI.out.2.2.2.2.2.2.2.2.2.2.2.2.2.1
    have hbf9 : b9 = false := by cases b9 with | false => rfl | true => exact absurd ((gi9 rfl).2.2) (by decide)
    subst hbf9
    have bn : Below W.heap.size W (W.alloc (.cells #[.int .i64 0, .int .i64 0, .int .u16 0, .int .u16 0] 35)) := (Below.refl _ _).alloc (Nat.le_refl _) _
    have hn := heap_alloc_new W (.cells #[.int .i64 0, .int .i64 0, .int .u16 0, .int .u16 0] 35)
    go_simp
    obtain ⟨h0, h1, h3, h4, h5, h7, h10, h11, h12, gi3, gi11, gi2, gi6, gi9, rD, gB, gP, gX, gA, gS⟩ := HI.out
    exact hK'.out _ _ ⟨.mk .., rfl, rfl, h0, h1, h3, h4, h5, h7, h10, h11, h12, gi3, gi11, gi2, gi6, (fun e => by cases e), (row_keep rD bn), (gB.trans (bn.mono gB.size)), (fun e => by obtain ⟨y0, y1, h1, h2⟩ := gP e; exact ⟨y0, y1, h1, h2.below bn⟩), (fun e => by obtain ⟨y0, y1, h1, h2⟩ := gX e; exact ⟨y0, y1, h1, h2.below bn⟩), (fun _ _ => ⟨_, rfl, gB.size, hn⟩), (fun e => by cases e)⟩
  · have hn9 : b9 = false := by revert hp; cases b9 <;> simp
    have e4 : b4 = true := by revert hp; cases b4 <;> simp
    have e8 : b8 = true := by revert hp; cases b8 <;> simp
    have e2 : b2 = true := by revert hp; cases b2 <;> simp
    have e1 : b1 = true := by revert hp; cases b1 <;> simp
    clear hp
    obtain rfl := (HI.out.2.2.2.1) e4
    subst hn9
    refine inv_op (o := ⟨none, _, _, _, _, _⟩) rfl (fun K' hK' => ?_)
    have gA := HI.out.2.2.2.2.2.2.2.2.2.2.2.2.2.2.2.2.2.2.1
    obtain ⟨gu, rfl, hlo, hrow⟩ := gA rfl e8
    obtain ⟨⟨hc0, hc1, hc2, hc3⟩, hz0, hz1, hz2, hz3⟩ := cells_four hrow
    have hlx := (Array.getElem?_eq_some_iff.1 hrow).1
    go_simp
    obtain ⟨h0, h1, h3, h4, h5, h7, h10, h11, h12, gi3, gi11, gi2, gi6, gi9, rD, gB, gP, gX, gA, gS⟩ := HI.out
    exact hK'.out _ _ ⟨.mk .., rfl, rfl, h0, h1, h3, h4, h5, h7, h10, h11, h12, gi3, gi11, gi2, gi6, (fun _ => ⟨e1, e2, e8⟩), (one_other (one_other (one_other (one_other rD _ _ (blocks_ne rD hrow (by decide))) _ _ (blocks_ne rD hrow (by decide))) _ _ (blocks_ne rD hrow (by decide))) _ _ (blocks_ne rD hrow (by decide))), ((((gB.setCell (p := ⟨gu, 0, none⟩) hlo _).setCell (p := ⟨gu, 1, none⟩) hlo _).setCell (p := ⟨gu, 2, none⟩) hlo _).setCell (p := ⟨gu, 3, none⟩) hlo _), (fun e => by obtain ⟨y0, y1, h1, h2⟩ := gP e; exact ⟨y0, y1, h1, (((h2.stay hrow (by decide) 0 _).stay (row_put hrow 0 _) (by decide) 1 _).stay (row_put (row_put hrow 0 _) 1 _) (by decide) 2 _).stay (row_put (row_put (row_put hrow 0 _) 1 _) 2 _) (by decide) 3 _⟩), (fun e => by obtain ⟨y0, y1, h1, h2⟩ := gX e; exact ⟨y0, y1, h1, (((h2.stay hrow (by decide) 0 _).stay (row_put hrow 0 _) (by decide) 1 _).stay (row_put (row_put hrow 0 _) 1 _) (by decide) 2 _).stay (row_put (row_put (row_put hrow 0 _) 1 _) 2 _) (by decide) 3 _⟩), (fun e => by cases e), (fun _ => ⟨gu, rfl, hlo, row_put (row_put (row_put (row_put hrow 0 _) 1 _) 2 _) 3 _⟩)⟩
  · obtain ⟨rfl, e5, e9⟩ : b10 = false ∧ b5 = true ∧ b9 = true := by revert hp; cases b10 <;> cases b5 <;> cases b9 <;> simp
    clear hp
    obtain rfl := (HI.out.2.2.2.2.1) e5
    refine inv_op (o := ⟨some 9, _, _, _, _, _⟩) rfl (fun K' hK' => ?_)
    go_simp
    exact hK'.out _ _ ⟨.mk .., rfl, rfl, Nxt (Nxt (Nx4 (Upd (fun _ => rfl)))) HI.out⟩
  · obtain ⟨rfl, e6, e10⟩ : b11 = false ∧ b6 = true ∧ b10 = true := by revert hp; cases b11 <;> cases b6 <;> cases b10 <;> simp
    clear hp
    refine inv_op (o := ⟨some 10, _, _, _, _, _⟩) rfl (fun K' hK' => ?_)
    go_simp
    exact hK'.out _ _ ⟨.mk .., rfl, rfl, Nxt (Nxt (Nx4 (Nx4 (Upd (fun _ => e6))))) (Nxt (Nxt (Nxt (Nx4 (Upd (fun _ => rfl))))) HI.out)⟩
  · obtain ⟨rfl, e7, e11⟩ : b12 = false ∧ b7 = true ∧ b11 = true := by revert hp; cases b12 <;> cases b7 <;> cases b11 <;> simp
    clear hp
    obtain rfl := (HI.out.2.2.2.2.2.1) e7
    refine inv_op (o := ⟨some 11, _, _, _, _, _⟩) rfl (fun K' hK' => ?_)
    go_simp
    exact hK'.out _ _ ⟨.mk .., rfl, rfl, Nx4 (Nx4 (Upd (fun _ => rfl))) HI.out⟩
 case hdone =>
  rintro ⟨b0, b1, b2, b3, b4, b5, b6, b7, b8, b9, b10, b11, b12, s45, s46, s47, s44, s48, s49, s50, s51, s8, s9, s10, s11⟩ W hI hall
  dsimp only at hI hall ⊢
  have HI := Lib.hid hI
  clear hI
  obtain rfl : b0 = true := hall 0 (by decide)
  obtain rfl : b1 = true := hall 1 (by decide)
  obtain rfl : b2 = true := hall 2 (by decide)
  obtain rfl : b3 = true := hall 3 (by decide)
  obtain rfl : b4 = true := hall 4 (by decide)
  obtain rfl : b5 = true := hall 5 (by decide)
  obtain rfl : b6 = true := hall 6 (by decide)
  obtain rfl : b7 = true := hall 7 (by decide)
  obtain rfl : b8 = true := hall 8 (by decide)
  obtain rfl : b9 = true := hall 9 (by decide)
  obtain rfl : b10 = true := hall 10 (by decide)
  obtain rfl : b11 = true := hall 11 (by decide)
  obtain rfl : b12 = true := hall 12 (by decide)
  obtain rfl := (HI.out.2.2.2.2.2.2.1) rfl
  obtain rfl := (HI.out.2.2.2.2.2.2.2.1) rfl
  obtain rfl := (HI.out.2.2.2.2.2.2.2.2.1) rfl
  have gB := HI.out.2.2.2.2.2.2.2.2.2.2.2.2.2.2.2.1
  have gX := HI.out.2.2.2.2.2.2.2.2.2.2.2.2.2.2.2.2.2.1
  have gS := HI.out.2.2.2.2.2.2.2.2.2.2.2.2.2.2.2.2.2.2.2
  clear HI hall
  obtain ⟨gu, rfl, hlo, hrow⟩ := gS rfl
  obtain ⟨ra, rc, rfl, hp⟩ := gX rfl
  clear HNX
  replace BW := Lib.hid (BW.out.trans (gB.mono BW.out.size))
  replace Qa := Lib.hid (Qa.out.below gB)
  replace Rm := Lib.hid (row_keep Rm.out gB)
  replace Rq := Lib.hid (row_keep Rq.out gB)
  replace Ab := Lib.hid (Ab.out.below gB)
  replace Qb := Lib.hid (Qb.out.below gB)
  replace Rd := Lib.hid (row_keep Rd.out gB)
  replace Re := Lib.hid (row_keep Re.out gB)
  have Rs := Lib.hid hrow
  have Pa := Lib.hid hp
  clear gS gX hrow hp
  have hgu : w.heap.size ≤ gu := Nat.le_trans HDW.out hlo
  have HGU := Lib.hid hgu
  clear hlo hgu gB
  obtain ⟨lRd0c8, zRd0c8⟩ := at_cell Rd.out 0 _ rfl
  obtain ⟨lRs0c9, zRs0c9⟩ := at_cell Rs.out 0 _ rfl
  obtain ⟨lRs1c10, zRs1c10⟩ := at_cell Rs.out 1 _ rfl
  obtain ⟨lRs2c11, zRs2c11⟩ := at_cell Rs.out 2 _ rfl
  obtain ⟨lRs3c12, zRs3c12⟩ := at_cell Rs.out 3 _ rfl
  go_wp2_with fail
  refine (give_this 4 0 1 0 0 5 _ G1 _ Ab.out (hok4 _ HF.out.n1) (by decide) (by decide) (by decide) 0 4 1 0 1 0 5 200 rfl rfl rfl rfl rfl rfl rfl HF.out.n1).mono ?_
  rintro e w3 ⟨ag, cg, rfl, hm, hb⟩
  clear lRd0c8 zRd0c8 lRs0c9 zRs0c9 lRs1c10 zRs1c10 lRs2c11 zRs2c11 lRs3c12 zRs3c12
  replace BW := Lib.hid (BW.out.trans (hb.mono BW.out.size))
  replace Qa := Lib.hid (Qa.out.below hb)
  replace Rm := Lib.hid (row_keep Rm.out hb)
  replace Rq := Lib.hid (row_keep Rq.out hb)
  replace Ab := Lib.hid (Ab.out.below hb)
  replace Qb := Lib.hid (Qb.out.below hb)
  replace Rd := Lib.hid (row_keep Rd.out hb)
  replace Re := Lib.hid (row_keep Re.out hb)
  replace Rs := Lib.hid (row_keep Rs.out hb)
  replace Pa := Lib.hid (Pa.out.below hb)
  have Ag := Lib.hid hm
  clear hm
  clear hb
  rw [HG2.out] at Ag
  obtain ⟨lRs0c13, zRs0c13⟩ := at_cell Rs.out 0 _ rfl
  obtain ⟨lRs1c14, zRs1c14⟩ := at_cell Rs.out 1 _ rfl
  obtain ⟨lRs2c15, zRs2c15⟩ := at_cell Rs.out 2 _ rfl
  obtain ⟨lRs3c16, zRs3c16⟩ := at_cell Rs.out 3 _ rfl
  have hls := (Array.getElem?_eq_some_iff.1 Rs.out).1
  have BWn := Lib.hid ((((BW.out.setCell (p := ⟨gu, 0, none⟩) (HGU.out) (.int .i64 0)).setCell (p := ⟨gu, 1, none⟩) (HGU.out) (.int .i64 4)).setCell (p := ⟨gu, 2, none⟩) (HGU.out) (.int .u16 1)).setCell (p := ⟨gu, 3, none⟩) (HGU.out) (.int .u16 1))
  have Qan := Lib.hid ((((Qa.out.stay Rs.out (by decide) (by decide) 0 (.int .i64 0)).stay (row_put Rs.out 0 (.int .i64 0)) (by decide) (by decide) 1 (.int .i64 4)).stay (row_put (row_put Rs.out 0 (.int .i64 0)) 1 (.int .i64 4)) (by decide) (by decide) 2 (.int .u16 1)).stay (row_put (row_put (row_put Rs.out 0 (.int .i64 0)) 1 (.int .i64 4)) 2 (.int .u16 1)) (by decide) (by decide) 3 (.int .u16 1))
  have Rmn := Lib.hid (one_other (one_other (one_other (one_other Rm.out ⟨gu, 0, none⟩ (.int .i64 0) (blocks_ne Rm.out Rs.out (by decide))) ⟨gu, 1, none⟩ (.int .i64 4) (blocks_ne Rm.out Rs.out (by decide))) ⟨gu, 2, none⟩ (.int .u16 1) (blocks_ne Rm.out Rs.out (by decide))) ⟨gu, 3, none⟩ (.int .u16 1) (blocks_ne Rm.out Rs.out (by decide)))
  have Rqn := Lib.hid (one_other (one_other (one_other (one_other Rq.out ⟨gu, 0, none⟩ (.int .i64 0) (blocks_ne Rq.out Rs.out (by decide))) ⟨gu, 1, none⟩ (.int .i64 4) (blocks_ne Rq.out Rs.out (by decide))) ⟨gu, 2, none⟩ (.int .u16 1) (blocks_ne Rq.out Rs.out (by decide))) ⟨gu, 3, none⟩ (.int .u16 1) (blocks_ne Rq.out Rs.out (by decide)))
  have Abn := Lib.hid ((((Ab.out.stay Rs.out (by decide) 0 (.int .i64 0)).stay (row_put Rs.out 0 (.int .i64 0)) (by decide) 1 (.int .i64 4)).stay (row_put (row_put Rs.out 0 (.int .i64 0)) 1 (.int .i64 4)) (by decide) 2 (.int .u16 1)).stay (row_put (row_put (row_put Rs.out 0 (.int .i64 0)) 1 (.int .i64 4)) 2 (.int .u16 1)) (by decide) 3 (.int .u16 1))
  have Qbn := Lib.hid ((((Qb.out.stay Rs.out (by decide) (by decide) 0 (.int .i64 0)).stay (row_put Rs.out 0 (.int .i64 0)) (by decide) (by decide) 1 (.int .i64 4)).stay (row_put (row_put Rs.out 0 (.int .i64 0)) 1 (.int .i64 4)) (by decide) (by decide) 2 (.int .u16 1)).stay (row_put (row_put (row_put Rs.out 0 (.int .i64 0)) 1 (.int .i64 4)) 2 (.int .u16 1)) (by decide) (by decide) 3 (.int .u16 1))
  have Rdn := Lib.hid (one_other (one_other (one_other (one_other Rd.out ⟨gu, 0, none⟩ (.int .i64 0) (blocks_ne Rd.out Rs.out (by decide))) ⟨gu, 1, none⟩ (.int .i64 4) (blocks_ne Rd.out Rs.out (by decide))) ⟨gu, 2, none⟩ (.int .u16 1) (blocks_ne Rd.out Rs.out (by decide))) ⟨gu, 3, none⟩ (.int .u16 1) (blocks_ne Rd.out Rs.out (by decide)))
  have Ren := Lib.hid (one_other (one_other (one_other (one_other Re.out ⟨gu, 0, none⟩ (.int .i64 0) (blocks_ne Re.out Rs.out (by decide))) ⟨gu, 1, none⟩ (.int .i64 4) (blocks_ne Re.out Rs.out (by decide))) ⟨gu, 2, none⟩ (.int .u16 1) (blocks_ne Re.out Rs.out (by decide))) ⟨gu, 3, none⟩ (.int .u16 1) (blocks_ne Re.out Rs.out (by decide)))
  have Pan := Lib.hid ((((Pa.out.stay Rs.out (by decide) 0 (.int .i64 0)).stay (row_put Rs.out 0 (.int .i64 0)) (by decide) 1 (.int .i64 4)).stay (row_put (row_put Rs.out 0 (.int .i64 0)) 1 (.int .i64 4)) (by decide) 2 (.int .u16 1)).stay (row_put (row_put (row_put Rs.out 0 (.int .i64 0)) 1 (.int .i64 4)) 2 (.int .u16 1)) (by decide) 3 (.int .u16 1))
  have Agn := Lib.hid ((((Ag.out.stay Rs.out (by decide) 0 (.int .i64 0)).stay (row_put Rs.out 0 (.int .i64 0)) (by decide) 1 (.int .i64 4)).stay (row_put (row_put Rs.out 0 (.int .i64 0)) 1 (.int .i64 4)) (by decide) 2 (.int .u16 1)).stay (row_put (row_put (row_put Rs.out 0 (.int .i64 0)) 1 (.int .i64 4)) 2 (.int .u16 1)) (by decide) 3 (.int .u16 1))
  replace Rs := Lib.hid (row_put (row_put (row_put (row_put Rs.out 0 (.int .i64 0)) 1 (.int .i64 4)) 2 (.int .u16 1)) 3 (.int .u16 1))
  replace BW := BWn
  replace Qa := Qan
  replace Rm := Rmn
  replace Rq := Rqn
  replace Ab := Abn
  replace Qb := Qbn
  replace Rd := Rdn
  replace Re := Ren
  replace Pa := Pan
  replace Ag := Agn
  try clear BWn Qan Rmn Rqn Abn Qbn Rdn Ren Pan Agn
  have hbx : Below (((((w3.setCell ⟨gu, 0, none⟩ (.int .i64 0)).setCell ⟨gu, 1, none⟩ (.int .i64 4)).setCell ⟨gu, 2, none⟩ (.int .u16 1)).setCell ⟨gu, 3, none⟩ (.int .u16 1))).heap.size (((((w3.setCell ⟨gu, 0, none⟩ (.int .i64 0)).setCell ⟨gu, 1, none⟩ (.int .i64 4)).setCell ⟨gu, 2, none⟩ (.int .u16 1)).setCell ⟨gu, 3, none⟩ (.int .u16 1))) ((((((w3.setCell ⟨gu, 0, none⟩ (.int .i64 0)).setCell ⟨gu, 1, none⟩ (.int .i64 4)).setCell ⟨gu, 2, none⟩ (.int .u16 1)).setCell ⟨gu, 3, none⟩ (.int .u16 1))).alloc (.cells #[.slice ag 200 cg] 26)) := (Below.refl _ _).alloc (Nat.le_refl _) _
  replace BW := Lib.hid (BW.out.trans (hbx.mono BW.out.size))
  replace Qa := Lib.hid (Qa.out.below hbx)
  replace Rm := Lib.hid (row_keep Rm.out hbx)
  replace Rq := Lib.hid (row_keep Rq.out hbx)
  replace Ab := Lib.hid (Ab.out.below hbx)
  replace Qb := Lib.hid (Qb.out.below hbx)
  replace Rd := Lib.hid (row_keep Rd.out hbx)
  replace Re := Lib.hid (row_keep Re.out hbx)
  replace Rs := Lib.hid (row_keep Rs.out hbx)
  replace Pa := Lib.hid (Pa.out.below hbx)
  replace Ag := Lib.hid (Ag.out.below hbx)
  have Rh := Lib.hid (heap_alloc_new (((((w3.setCell ⟨gu, 0, none⟩ (.int .i64 0)).setCell ⟨gu, 1, none⟩ (.int .i64 4)).setCell ⟨gu, 2, none⟩ (.int .u16 1)).setCell ⟨gu, 3, none⟩ (.int .u16 1))) (.cells #[.slice ag 200 cg] 26))
  clear hbx
  have hsz : (((((w3.setCell ⟨gu, 0, none⟩ (.int .i64 0)).setCell ⟨gu, 1, none⟩ (.int .i64 4)).setCell ⟨gu, 2, none⟩ (.int .u16 1)).setCell ⟨gu, 3, none⟩ (.int .u16 1))).heap.size = w3.heap.size := by simp
  rw [hsz] at Rh
  clear hsz
  go_simp
  iterate 24 (first | go_step | go_values | go_skip | go_guarded | go_upon | go_in | go_back)
  clear lRs0c13 zRs0c13 lRs1c14 zRs1c14 lRs2c15 zRs2c15 lRs3c16 zRs3c16 hls
  obtain ⟨we, hwe⟩ : ∃ x, x = (((((w3.setCell ⟨gu, 0, none⟩ (.int .i64 0)).setCell ⟨gu, 1, none⟩ (.int .i64 4)).setCell ⟨gu, 2, none⟩ (.int .u16 1)).setCell ⟨gu, 3, none⟩ (.int .u16 1))).alloc (.cells #[.slice ag 200 cg] 26) := ⟨_, rfl⟩
  rw [← hwe] at BW Qa Rm Rq Ab Qb Rd Re Rs Pa Ag Rh ⊢
  clear hwe
  obtain ⟨lRh0c17, zRh0c17⟩ := at_cell Rh.out 0 _ rfl
  clear zRh0c17
  obtain ⟨lRe0c18, zRe0c18⟩ := at_cell Re.out 0 _ rfl
  clear zRe0c18
  obtain ⟨lRe1c19, zRe1c19⟩ := at_cell Re.out 1 _ rfl
  clear zRe1c19
  obtain ⟨lRe2c20, zRe2c20⟩ := at_cell Re.out 2 _ rfl
  clear zRe2c20
  obtain ⟨lRe3c21, zRe3c21⟩ := at_cell Re.out 3 _ rfl
  clear zRe3c21
  obtain ⟨lRe4c22, zRe4c22⟩ := at_cell Re.out 4 _ rfl
  clear zRe4c22
  obtain ⟨lRe5c23, zRe5c23⟩ := at_cell Re.out 5 _ rfl
  clear zRe5c23
  go_wp2_with fail
  refine (poll_this hq1 4 0 _ _ _ _ G2 _ Ag.out Qb.out hgood1 rfl (hok4 _ HF.out.n2) hq2 0 5 0 HF.out.p1 0 4 1 0 1 1 rfl rfl rfl rfl rfl rfl rfl rfl).mono ?_
  rintro e w4 ⟨Fc, Cc, Dc, rfl, hq, hb⟩
  obtain ⟨fc, pfc, rfl⟩ := hq.freeLen hq2_free
  obtain ⟨xc, pxc, rfl⟩ := hq.chainLen hq2_clen
  clear lRh0c17 lRe0c18 lRe1c19 lRe2c20 lRe3c21 lRe4c22 lRe5c23
  replace BW := Lib.hid (BW.out.trans (hb.mono BW.out.size))
  replace Qa := Lib.hid (Qa.out.below hb)
  replace Rm := Lib.hid (row_keep Rm.out hb)
  replace Rq := Lib.hid (row_keep Rq.out hb)
  replace Ab := Lib.hid (Ab.out.below hb)
  replace Qb := Lib.hid (Qb.out.below hb)
  replace Rd := Lib.hid (row_keep Rd.out hb)
  replace Re := Lib.hid (row_keep Re.out hb)
  replace Rs := Lib.hid (row_keep Rs.out hb)
  replace Pa := Lib.hid (Pa.out.below hb)
  replace Ag := Lib.hid (Ag.out.below hb)
  replace Rh := Lib.hid (row_keep Rh.out hb)
  have Qc := Lib.hid hq
  clear hq
  clear hb
  have hbx : Below (w4).heap.size (w4) ((w4).alloc (.cells #[.int .i64 0, .int .i64 4, .slice fc 4 pfc, .int .u16 1, .int .u16 1, .slice xc 0 pxc] 30)) := (Below.refl _ _).alloc (Nat.le_refl _) _
  replace BW := Lib.hid (BW.out.trans (hbx.mono BW.out.size))
  replace Qa := Lib.hid (Qa.out.below hbx)
  replace Rm := Lib.hid (row_keep Rm.out hbx)
  replace Rq := Lib.hid (row_keep Rq.out hbx)
  replace Ab := Lib.hid (Ab.out.below hbx)
  replace Qb := Lib.hid (Qb.out.below hbx)
  replace Rd := Lib.hid (row_keep Rd.out hbx)
  replace Re := Lib.hid (row_keep Re.out hbx)
  replace Rs := Lib.hid (row_keep Rs.out hbx)
  replace Pa := Lib.hid (Pa.out.below hbx)
  replace Ag := Lib.hid (Ag.out.below hbx)
  replace Rh := Lib.hid (row_keep Rh.out hbx)
  replace Qc := Lib.hid (Qc.out.below hbx)
  have Ri := Lib.hid (heap_alloc_new (w4) (.cells #[.int .i64 0, .int .i64 4, .slice fc 4 pfc, .int .u16 1, .int .u16 1, .slice xc 0 pxc] 30))
  clear hbx
  obtain ⟨lRh0c24, zRh0c24⟩ := at_cell Rh.out 0 _ rfl
  clear zRh0c24
  obtain ⟨lRi0c25, zRi0c25⟩ := at_cell Ri.out 0 _ rfl
  clear zRi0c25
  obtain ⟨lRi1c26, zRi1c26⟩ := at_cell Ri.out 1 _ rfl
  clear zRi1c26
  obtain ⟨lRi2c27, zRi2c27⟩ := at_cell Ri.out 2 _ rfl
  clear zRi2c27
  obtain ⟨lRi3c28, zRi3c28⟩ := at_cell Ri.out 3 _ rfl
  clear zRi3c28
  obtain ⟨lRi4c29, zRi4c29⟩ := at_cell Ri.out 4 _ rfl
  clear zRi4c29
  obtain ⟨lRi5c30, zRi5c30⟩ := at_cell Ri.out 5 _ rfl
  clear zRi5c30
  go_wp2_with fail
  refine (poll_this hq2 4 0 _ _ _ _ G2 _ Ag.out Qc.out hgood2 rfl (hok4 _ HF.out.n2) hq2 0 0 7 HF.out.p2 0 4 1 1 1 1 rfl rfl rfl rfl rfl rfl rfl rfl).mono ?_
  rintro e w5 ⟨Fd, Cd, Dd, rfl, hq, hb⟩
  obtain ⟨fd, pfd, rfl⟩ := hq.freeLen hq2_free
  obtain ⟨xd, pxd, rfl⟩ := hq.chainLen hq2_clen
  clear lRh0c24 lRi0c25 lRi1c26 lRi2c27 lRi3c28 lRi4c29 lRi5c30
  replace BW := Lib.hid (BW.out.trans (hb.mono BW.out.size))
  replace Qa := Lib.hid (Qa.out.below hb)
  replace Rm := Lib.hid (row_keep Rm.out hb)
  replace Rq := Lib.hid (row_keep Rq.out hb)
  replace Ab := Lib.hid (Ab.out.below hb)
  replace Qb := Lib.hid (Qb.out.below hb)
  replace Rd := Lib.hid (row_keep Rd.out hb)
  replace Re := Lib.hid (row_keep Re.out hb)
  replace Rs := Lib.hid (row_keep Rs.out hb)
  replace Pa := Lib.hid (Pa.out.below hb)
  replace Ag := Lib.hid (Ag.out.below hb)
  replace Rh := Lib.hid (row_keep Rh.out hb)
  replace Qc := Lib.hid (Qc.out.below hb)
  replace Ri := Lib.hid (row_keep Ri.out hb)
  have Qd := Lib.hid hq
  clear hq
  clear hb
  have hbx : Below (w5).heap.size (w5) ((w5).alloc (.cells #[.int .i64 0, .int .i64 4, .slice fd 4 pfd, .int .u16 1, .int .u16 1, .slice xd 0 pxd] 30)) := (Below.refl _ _).alloc (Nat.le_refl _) _
  replace BW := Lib.hid (BW.out.trans (hbx.mono BW.out.size))
  replace Qa := Lib.hid (Qa.out.below hbx)
  replace Rm := Lib.hid (row_keep Rm.out hbx)
  replace Rq := Lib.hid (row_keep Rq.out hbx)
  replace Ab := Lib.hid (Ab.out.below hbx)
  replace Qb := Lib.hid (Qb.out.below hbx)
  replace Rd := Lib.hid (row_keep Rd.out hbx)
  replace Re := Lib.hid (row_keep Re.out hbx)
  replace Rs := Lib.hid (row_keep Rs.out hbx)
  replace Pa := Lib.hid (Pa.out.below hbx)
  replace Ag := Lib.hid (Ag.out.below hbx)
  replace Rh := Lib.hid (row_keep Rh.out hbx)
  replace Qc := Lib.hid (Qc.out.below hbx)
  replace Ri := Lib.hid (row_keep Ri.out hbx)
  replace Qd := Lib.hid (Qd.out.below hbx)
  have Rj := Lib.hid (heap_alloc_new (w5) (.cells #[.int .i64 0, .int .i64 4, .slice fd 4 pfd, .int .u16 1, .int .u16 1, .slice xd 0 pxd] 30))
  clear hbx
  obtain ⟨lRh0c31, zRh0c31⟩ := at_cell Rh.out 0 _ rfl
  clear zRh0c31
  obtain ⟨lRq0c32, zRq0c32⟩ := at_cell Rq.out 0 _ rfl
  clear zRq0c32
  obtain ⟨lRq1c33, zRq1c33⟩ := at_cell Rq.out 1 _ rfl
  clear zRq1c33
  obtain ⟨lRq2c34, zRq2c34⟩ := at_cell Rq.out 2 _ rfl
  clear zRq2c34
  obtain ⟨lRq3c35, zRq3c35⟩ := at_cell Rq.out 3 _ rfl
  clear zRq3c35
  obtain ⟨lRq4c36, zRq4c36⟩ := at_cell Rq.out 4 _ rfl
  clear zRq4c36
  obtain ⟨lRq5c37, zRq5c37⟩ := at_cell Rq.out 5 _ rfl
  clear zRq5c37
  go_wp2_with fail
  refine (poll_this hq0 4 0 _ _ _ _ G2 _ Ag.out Qa.out hgood0 rfl (hok4 _ HF.out.n2) { hq0 with last := 1 } 0 0 80 HF.out.p3 0 4 0 0 0 1 rfl rfl rfl rfl rfl rfl rfl rfl).mono ?_
  rintro e w6 ⟨Fe, Ce, De, rfl, hq, hb⟩
  obtain ⟨fe, pfe, rfl⟩ := hq.freeLen hq0_len
  obtain ⟨xe, pxe, rfl⟩ := hq.chainLen (show ({ hq0 with last := 1 } : QQ).chains.length = 0 from rfl)
  clear lRh0c31 lRq0c32 lRq1c33 lRq2c34 lRq3c35 lRq4c36 lRq5c37
  replace BW := Lib.hid (BW.out.trans (hb.mono BW.out.size))
  replace Qa := Lib.hid (Qa.out.below hb)
  replace Rm := Lib.hid (row_keep Rm.out hb)
  replace Rq := Lib.hid (row_keep Rq.out hb)
  replace Ab := Lib.hid (Ab.out.below hb)
  replace Qb := Lib.hid (Qb.out.below hb)
  replace Rd := Lib.hid (row_keep Rd.out hb)
  replace Re := Lib.hid (row_keep Re.out hb)
  replace Rs := Lib.hid (row_keep Rs.out hb)
  replace Pa := Lib.hid (Pa.out.below hb)
  replace Ag := Lib.hid (Ag.out.below hb)
  replace Rh := Lib.hid (row_keep Rh.out hb)
  replace Qc := Lib.hid (Qc.out.below hb)
  replace Ri := Lib.hid (row_keep Ri.out hb)
  replace Qd := Lib.hid (Qd.out.below hb)
  replace Rj := Lib.hid (row_keep Rj.out hb)
  have Qe := Lib.hid hq
  clear hq
  clear hb
  have hbx : Below (w6).heap.size (w6) ((w6).alloc (.cells #[.int .i64 0, .int .i64 4, .slice fe 4 pfe, .int .u16 0, .int .u16 1, .slice xe 0 pxe] 30)) := (Below.refl _ _).alloc (Nat.le_refl _) _
  replace BW := Lib.hid (BW.out.trans (hbx.mono BW.out.size))
  replace Qa := Lib.hid (Qa.out.below hbx)
  replace Rm := Lib.hid (row_keep Rm.out hbx)
  replace Rq := Lib.hid (row_keep Rq.out hbx)
  replace Ab := Lib.hid (Ab.out.below hbx)
  replace Qb := Lib.hid (Qb.out.below hbx)
  replace Rd := Lib.hid (row_keep Rd.out hbx)
  replace Re := Lib.hid (row_keep Re.out hbx)
  replace Rs := Lib.hid (row_keep Rs.out hbx)
  replace Pa := Lib.hid (Pa.out.below hbx)
  replace Ag := Lib.hid (Ag.out.below hbx)
  replace Rh := Lib.hid (row_keep Rh.out hbx)
  replace Qc := Lib.hid (Qc.out.below hbx)
  replace Ri := Lib.hid (row_keep Ri.out hbx)
  replace Qd := Lib.hid (Qd.out.below hbx)
  replace Rj := Lib.hid (row_keep Rj.out hbx)
  replace Qe := Lib.hid (Qe.out.below hbx)
  have Rk := Lib.hid (heap_alloc_new (w6) (.cells #[.int .i64 0, .int .i64 4, .slice fe 4 pfe, .int .u16 0, .int .u16 1, .slice xe 0 pxe] 30))
  clear hbx
  obtain ⟨lRq0c38, zRq0c38⟩ := at_cell Rq.out 0 _ rfl
  clear zRq0c38
  obtain ⟨lRq1c39, zRq1c39⟩ := at_cell Rq.out 1 _ rfl
  clear zRq1c39
  obtain ⟨lRq2c40, zRq2c40⟩ := at_cell Rq.out 2 _ rfl
  clear zRq2c40
  obtain ⟨lRq3c41, zRq3c41⟩ := at_cell Rq.out 3 _ rfl
  clear zRq3c41
  obtain ⟨lRq4c42, zRq4c42⟩ := at_cell Rq.out 4 _ rfl
  clear zRq4c42
  obtain ⟨lRq5c43, zRq5c43⟩ := at_cell Rq.out 5 _ rfl
  clear zRq5c43
  go_wp2_with fail
  refine (check_this hq0 4 _ _ _ _ Qa.out hgood0 0 4 0 0 rfl rfl rfl rfl).mono ?_
  rintro e w7 ⟨rfl, hb⟩
  clear lRq0c38 lRq1c39 lRq2c40 lRq3c41 lRq4c42 lRq5c43
  replace BW := Lib.hid (BW.out.trans (hb.mono BW.out.size))
  replace Qa := Lib.hid (Qa.out.below hb)
  replace Rm := Lib.hid (row_keep Rm.out hb)
  replace Rq := Lib.hid (row_keep Rq.out hb)
  replace Ab := Lib.hid (Ab.out.below hb)
  replace Qb := Lib.hid (Qb.out.below hb)
  replace Rd := Lib.hid (row_keep Rd.out hb)
  replace Re := Lib.hid (row_keep Re.out hb)
  replace Rs := Lib.hid (row_keep Rs.out hb)
  replace Pa := Lib.hid (Pa.out.below hb)
  replace Ag := Lib.hid (Ag.out.below hb)
  replace Rh := Lib.hid (row_keep Rh.out hb)
  replace Qc := Lib.hid (Qc.out.below hb)
  replace Ri := Lib.hid (row_keep Ri.out hb)
  replace Qd := Lib.hid (Qd.out.below hb)
  replace Rj := Lib.hid (row_keep Rj.out hb)
  replace Qe := Lib.hid (Qe.out.below hb)
  replace Rk := Lib.hid (row_keep Rk.out hb)
  clear hb
  obtain ⟨lRe0c44, zRe0c44⟩ := at_cell Re.out 0 _ rfl
  clear zRe0c44
  obtain ⟨lRe1c45, zRe1c45⟩ := at_cell Re.out 1 _ rfl
  clear zRe1c45
  obtain ⟨lRe2c46, zRe2c46⟩ := at_cell Re.out 2 _ rfl
  clear zRe2c46
  obtain ⟨lRe3c47, zRe3c47⟩ := at_cell Re.out 3 _ rfl
  clear zRe3c47
  obtain ⟨lRe4c48, zRe4c48⟩ := at_cell Re.out 4 _ rfl
  clear zRe4c48
  obtain ⟨lRe5c49, zRe5c49⟩ := at_cell Re.out 5 _ rfl
  clear zRe5c49
  have hbx : Below (w7).heap.size (w7) ((w7).alloc (.cells #[.int .i64 150, .int .i64 4, .bool false, .int .i64 160, .int .i64 8, .bool true] 39)) := (Below.refl _ _).alloc (Nat.le_refl _) _
  replace BW := Lib.hid (BW.out.trans (hbx.mono BW.out.size))
  replace Qa := Lib.hid (Qa.out.below hbx)
  replace Rm := Lib.hid (row_keep Rm.out hbx)
  replace Rq := Lib.hid (row_keep Rq.out hbx)
  replace Ab := Lib.hid (Ab.out.below hbx)
  replace Qb := Lib.hid (Qb.out.below hbx)
  replace Rd := Lib.hid (row_keep Rd.out hbx)
  replace Re := Lib.hid (row_keep Re.out hbx)
  replace Rs := Lib.hid (row_keep Rs.out hbx)
  replace Pa := Lib.hid (Pa.out.below hbx)
  replace Ag := Lib.hid (Ag.out.below hbx)
  replace Rh := Lib.hid (row_keep Rh.out hbx)
  replace Qc := Lib.hid (Qc.out.below hbx)
  replace Ri := Lib.hid (row_keep Ri.out hbx)
  replace Qd := Lib.hid (Qd.out.below hbx)
  replace Rj := Lib.hid (row_keep Rj.out hbx)
  replace Qe := Lib.hid (Qe.out.below hbx)
  replace Rk := Lib.hid (row_keep Rk.out hbx)
  have hpr := buf_rows (w7) 150 4 false 160 8 true
  have hsz : (w7).heap.size = w7.heap.size := by simp
  rw [hsz] at hpr
  have BF := Lib.hid hpr
  clear hbx hsz hpr
  go_wp2_with fail
  refine (bufs_any 0 0 _ _ hbs _ Pa.out BF.out (by decide)).mono ?_
  rintro e w8 ⟨rfl, hb⟩
  clear lRe0c44 lRe1c45 lRe2c46 lRe3c47 lRe4c48 lRe5c49
  replace BW := Lib.hid (BW.out.trans (hb.mono BW.out.size))
  replace Qa := Lib.hid (Qa.out.below hb)
  replace Rm := Lib.hid (row_keep Rm.out hb)
  replace Rq := Lib.hid (row_keep Rq.out hb)
  replace Ab := Lib.hid (Ab.out.below hb)
  replace Qb := Lib.hid (Qb.out.below hb)
  replace Rd := Lib.hid (row_keep Rd.out hb)
  replace Re := Lib.hid (row_keep Re.out hb)
  replace Rs := Lib.hid (row_keep Rs.out hb)
  replace Pa := Lib.hid (Pa.out.below hb)
  replace Ag := Lib.hid (Ag.out.below hb)
  replace Rh := Lib.hid (row_keep Rh.out hb)
  replace Qc := Lib.hid (Qc.out.below hb)
  replace Ri := Lib.hid (row_keep Ri.out hb)
  replace Qd := Lib.hid (Qd.out.below hb)
  replace Rj := Lib.hid (row_keep Rj.out hb)
  replace Qe := Lib.hid (Qe.out.below hb)
  replace Rk := Lib.hid (row_keep Rk.out hb)
  replace BF := Lib.hid (BF.out.below hb)
  clear hb
  obtain ⟨lRs0c50, zRs0c50⟩ := at_cell Rs.out 0 _ rfl
  clear zRs0c50
  obtain ⟨lRs1c51, zRs1c51⟩ := at_cell Rs.out 1 _ rfl
  clear zRs1c51
  obtain ⟨lRs2c52, zRs2c52⟩ := at_cell Rs.out 2 _ rfl
  clear zRs2c52
  obtain ⟨lRs3c53, zRs3c53⟩ := at_cell Rs.out 3 _ rfl
  clear zRs3c53
  obtain ⟨lRi0c54, zRi0c54⟩ := at_cell Ri.out 0 _ rfl
  clear zRi0c54
  obtain ⟨lRi1c55, zRi1c55⟩ := at_cell Ri.out 1 _ rfl
  clear zRi1c55
  obtain ⟨lRi2c56, zRi2c56⟩ := at_cell Ri.out 2 _ rfl
  clear zRi2c56
  obtain ⟨lRi3c57, zRi3c57⟩ := at_cell Ri.out 3 _ rfl
  clear zRi3c57
  obtain ⟨lRi4c58, zRi4c58⟩ := at_cell Ri.out 4 _ rfl
  clear zRi4c58
  obtain ⟨lRi5c59, zRi5c59⟩ := at_cell Ri.out 5 _ rfl
  clear zRi5c59
  go_wp2_with fail
  refine (check_this hq2 4 _ _ _ _ Qc.out hgood2 0 4 1 1 rfl rfl rfl rfl).mono ?_
  rintro e w9 ⟨rfl, hb⟩
  clear lRs0c50 lRs1c51 lRs2c52 lRs3c53 lRi0c54 lRi1c55 lRi2c56 lRi3c57 lRi4c58 lRi5c59
  replace BW := Lib.hid (BW.out.trans (hb.mono BW.out.size))
  replace Qa := Lib.hid (Qa.out.below hb)
  replace Rm := Lib.hid (row_keep Rm.out hb)
  replace Rq := Lib.hid (row_keep Rq.out hb)
  replace Ab := Lib.hid (Ab.out.below hb)
  replace Qb := Lib.hid (Qb.out.below hb)
  replace Rd := Lib.hid (row_keep Rd.out hb)
  replace Re := Lib.hid (row_keep Re.out hb)
  replace Rs := Lib.hid (row_keep Rs.out hb)
  replace Pa := Lib.hid (Pa.out.below hb)
  replace Ag := Lib.hid (Ag.out.below hb)
  replace Rh := Lib.hid (row_keep Rh.out hb)
  replace Qc := Lib.hid (Qc.out.below hb)
  replace Ri := Lib.hid (row_keep Ri.out hb)
  replace Qd := Lib.hid (Qd.out.below hb)
  replace Rj := Lib.hid (row_keep Rj.out hb)
  replace Qe := Lib.hid (Qe.out.below hb)
  replace Rk := Lib.hid (row_keep Rk.out hb)
  replace BF := Lib.hid (BF.out.below hb)
  clear hb
  obtain ⟨lRi0c60, zRi0c60⟩ := at_cell Ri.out 0 _ rfl
  clear zRi0c60
  obtain ⟨lRi1c61, zRi1c61⟩ := at_cell Ri.out 1 _ rfl
  clear zRi1c61
  obtain ⟨lRi2c62, zRi2c62⟩ := at_cell Ri.out 2 _ rfl
  clear zRi2c62
  obtain ⟨lRi3c63, zRi3c63⟩ := at_cell Ri.out 3 _ rfl
  clear zRi3c63
  obtain ⟨lRi4c64, zRi4c64⟩ := at_cell Ri.out 4 _ rfl
  clear zRi4c64
  obtain ⟨lRi5c65, zRi5c65⟩ := at_cell Ri.out 5 _ rfl
  clear zRi5c65
  go_wp2
  go_ret
  exact ⟨rfl, BW.out⟩
end Go.Proofs.YtnmekbbnglkmcaaGreat
namespace Go.Proofs.YtnmekbbnglkmcaaGreat
open Go.RowKit Go.Lib
def tq (A : Nat) : QQ := ⟨0, 4, upN 4, A, A, []⟩
def tbs (n : Int) : List QB := [(200, n, true)]
def tq1 (A : Nat) (n : Int) : QQ := addQ (tq A) (tbs n)
structure TurnStep (A n : Nat) (G1 G2 : List UInt8) : Prop where
 n1 : G1.length = 400
 n2 : G2.length = 400
 good1 : GoodQ (tq1 A n) 4
 ch : Chained G1 0 [0] (tbs n)
 ix : numAt G1 (0 + 16 * 4 + 2) 2 = (A + 1) % 65536
 ne : (A + 1) % 65536 ≠ A
 at0 : numAt G1 (0 + 16 * 4 + 4 + 2 * (A % 4)) 2 = 0
 p : ∀ q2 x y E, PollSpec G2 0 4 (tq1 A n) q2 x y E → q2 = tq ((A + 1) % 65536) ∧ x = 0 ∧ y = (n : Nat) ∧ E = 0
theorem and_small (x : Int) (m : Nat) (hm : m < 1000) : ∃ y : Nat, y ≤ m ∧ bits BinOp.and IntKind.i64 x (m : Int) = (y : Int) := by
 refine ⟨(BitVec.ofInt 64 x &&& BitVec.ofInt 64 (m : Int)).toNat, ?_, ?_⟩
 · rw [show BitVec.ofInt 64 (m : Int) = BitVec.ofNat 64 m from BitVec.ofInt_natCast .., BitVec.toNat_and, BitVec.toNat_ofNat, Nat.mod_eq_of_lt (by omega)]
   exact Nat.and_le_right
 · have h : (BitVec.ofInt 64 x &&& BitVec.ofInt 64 (m : Int)).toNat ≤ m := by
    rw [show BitVec.ofInt 64 (m : Int) = BitVec.ofNat 64 m from BitVec.ofInt_natCast .., BitVec.toNat_and, BitVec.toNat_ofNat, Nat.mod_eq_of_lt (by omega)]
    exact Nat.and_le_right
   show IntKind.i64.wrap ((((BitVec.ofInt 64 x) &&& (BitVec.ofInt 64 (m : Int))).toNat : Nat) : Int) = _
   generalize ((BitVec.ofInt 64 x) &&& (BitVec.ofInt 64 (m : Int))).toNat = y at h ⊢
   exact IntWalk.i64_in _ (by omega)
end Go.Proofs.YtnmekbbnglkmcaaGreat
