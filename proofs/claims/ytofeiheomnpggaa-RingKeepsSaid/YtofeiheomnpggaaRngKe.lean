/- The law RingKeeps returns true for every input. -/
import Derived.Test.YtofeiheomnpggaaRngHe
import Derived.Test.YtofeiheomnpggaaOpenR
namespace Go.Proofs.Ytofeiheomnpggaa
open Go.RowKit Go.Lib

theorem came_max {w : World} {v : Value} {l : List UInt8} (h : IsArg w v l) : l.length ≤ maxLen := by
  rcases h.1 with ⟨_, _, _, rfl⟩ | ⟨_, _, _, _, h1, h2, _⟩
  · exact Nat.zero_le _
  · omega
theorem came_boxes (w : World) (u : Value) (a n f x y0 y1 : Nat) : (((w.alloc (.cells #[u] 28)).alloc (.cells #[.int .u64 (a : Nat), .int .u32 (n : Nat), .int .u16 (f : Nat), .int .u16 (x : Nat)] 44)).alloc (.cells #[.int .u32 (y0 : Nat), .int .u32 (y1 : Nat)] 25)).heap[w.heap.size]? = some (.cells #[u] 28 (0, 0)) ∧ (((w.alloc (.cells #[u] 28)).alloc (.cells #[.int .u64 (a : Nat), .int .u32 (n : Nat), .int .u16 (f : Nat), .int .u16 (x : Nat)] 44)).alloc (.cells #[.int .u32 (y0 : Nat), .int .u32 (y1 : Nat)] 25)).heap[w.heap.size + 1]? = some (.cells #[.int .u64 (a : Nat), .int .u32 (n : Nat), .int .u16 (f : Nat), .int .u16 (x : Nat)] 44) ∧ (((w.alloc (.cells #[u] 28)).alloc (.cells #[.int .u64 (a : Nat), .int .u32 (n : Nat), .int .u16 (f : Nat), .int .u16 (x : Nat)] 44)).alloc (.cells #[.int .u32 (y0 : Nat), .int .u32 (y1 : Nat)] 25)).heap[w.heap.size + 1 + 1]? = some (.cells #[.int .u32 (y0 : Nat), .int .u32 (y1 : Nat)] 25) ∧ Below w.heap.size w (((w.alloc (.cells #[u] 28)).alloc (.cells #[.int .u64 (a : Nat), .int .u32 (n : Nat), .int .u16 (f : Nat), .int .u16 (x : Nat)] 44)).alloc (.cells #[.int .u32 (y0 : Nat), .int .u32 (y1 : Nat)] 25)) := by
  refine ⟨row_keep (row_keep (heap_alloc_new w _) ((Below.refl _ _).alloc (Nat.le_refl _) (.cells #[.int .u64 (a : Nat), .int .u32 (n : Nat), .int .u16 (f : Nat), .int .u16 (x : Nat)] 44))) ((Below.refl _ _).alloc (Nat.le_refl _) _), row_keep (by simpa using heap_alloc_new (w.alloc (.cells #[u] 28)) (.cells #[.int .u64 (a : Nat), .int .u32 (n : Nat), .int .u16 (f : Nat), .int .u16 (x : Nat)] 44)) ((Below.refl _ _).alloc (Nat.le_refl _) _), by simpa using heap_alloc_new ((w.alloc (.cells #[u] 28)).alloc (.cells #[.int .u64 (a : Nat), .int .u32 (n : Nat), .int .u16 (f : Nat), .int .u16 (x : Nat)] 44)) (.cells #[.int .u32 (y0 : Nat), .int .u32 (y1 : Nat)] 25), (((Below.refl _ _).alloc (Nat.le_refl _) _).alloc (by simp) _).alloc (by simp; omega) _⟩
theorem cutTo (a : Option Addr) (n c h : Nat) (hh : h ≤ c) (W : World) :
    (Instr.slice 26 (.slice a n c) none (some (.int .i64 h)) none).run Try.prog W = .ok (sliced a 0 h c 1) W := by
  rw [run_slice_h (P := Try.prog) W 26 a n c elemBytes .i64 h (by omega) (by omega), sizeByte]
  rfl
theorem cutFrom (a : Option Addr) (n c l : Nat) (hl : l ≤ n) (W : World) :
    (Instr.slice 26 (.slice a n c) (some (.int .i64 l)) none none).run Try.prog W = .ok (sliced a l n c 1) W := by
  rw [run_slice_l (P := Try.prog) W 26 a n c elemBytes .i64 l (by omega) (by omega), sizeByte]
  rfl
theorem eql_self (s : ByteArray) (W : World) : (binOp .eql 9 (.string s) (.string s)).run Try.prog W = .ok (.bool true) W := by
  simp [go_sem]

/-- What is there behind all three, and what stays. -/
structure KeepFacts (l G1 G2 G3 : List UInt8) (B N I k da dn df dx u0 u1 : Nat) : Prop where
  o0 : RingOk l.length B N
  n1 : G1.length = l.length
  n2 : G2.length = l.length
  n3 : G3.length = l.length
  e1 : setX l (B : Nat) (N : Nat) (I : Nat) da dn df dx = G1
  e2 : offerX G1 (B : Nat) (N : Nat) k (I : Nat) = G2
  e3 : returnX G2 (B : Nat) (N : Nat) k u0 u1 = G3
  x0 : descX G3 (B : Nat) (N : Nat) (I : Nat) 0 8 = da
  x1 : descX G3 (B : Nat) (N : Nat) (I : Nat) 8 4 = dn
  x2 : descX G3 (B : Nat) (N : Nat) (I : Nat) 12 2 = df
  x3 : descX G3 (B : Nat) (N : Nat) (I : Nat) 14 2 = dx
  av : availX G3 (B : Nat) (N : Nat) = (k + 1) % 65536
  aa : availAtX G3 (B : Nat) (N : Nat) k = I
  us : usedX G3 (B : Nat) (N : Nat) = (k + 1) % 65536
  ua : usedAtX G3 (B : Nat) (N : Nat) k 0 = u0
  ub : usedAtX G3 (B : Nat) (N : Nat) k 4 = u1
  dd : ∀ j o q : Nat, j < N → j ≠ I → o + q ≤ 16 → descX G3 (B : Nat) (N : Nat) (j : Nat) o q = descX l (B : Nat) (N : Nat) (j : Nat) o q
  uu : ∀ j o : Nat, j < N → j ≠ k % N → o + 4 ≤ 8 → usedAtX G3 (B : Nat) (N : Nat) j o = usedAtX l (B : Nat) (N : Nat) j o
  tk : G3.take B = l.take B
  dp : G3.drop (B + sizeN N) = l.drop (B + sizeN N)
theorem keep_plain (l : List UInt8) (B N I k da dn df dx u0 u1 : Nat) (hok : RingOk l.length B N) (hI : I < N) (hda : da < 18446744073709551616) (hdn : dn < 4294967296) (hdf : df < 65536) (hdx : dx < 65536) (hu0 : u0 < 4294967296) (hu1 : u1 < 4294967296) (G1 G2 G3 : List UInt8) (h1 : setX l (B : Nat) (N : Nat) (I : Nat) da dn df dx = G1) (h2 : offerX G1 (B : Nat) (N : Nat) k (I : Nat) = G2) (h3 : returnX G2 (B : Nat) (N : Nat) k u0 u1 = G3) : KeepFacts l G1 G2 G3 B N I k da dn df dx u0 u1 := by
  have n1 : G1.length = l.length := by rw [← h1, setX_length]
  have n2 : G2.length = l.length := by rw [← h2, offerX_length, n1]
  have n3 : G3.length = l.length := by rw [← h3, returnX_length, n2]
  have ok1 : RingOk G1.length B N := by rw [n1]; exact hok
  have ok2 : RingOk G2.length B N := by rw [n2]; exact hok
  have ok3 : RingOk G3.length B N := by rw [n3]; exact hok
  obtain ⟨l1, l2, l3, l4, l5⟩ := hok.lie
  have l6 := mod_in (k := k) l1
  have l7 := sizeN_le N
  have hp : B + 16 * I + 16 ≤ l.length := by omega
  have e1 : G1 = setD l (B + 16 * I) da dn df dx := by rw [← h1]; exact setX_ok hok hI da dn df dx
  have e2 : G2 = offerD G1 B N k I := by
    rw [← h2]
    have e := offerX_ok ok1 k (I : Nat)
    rw [show (((I : Nat) : Int) % 65536).toNat = I by omega] at e
    exact e
  have e3 : G3 = returnD G2 B N k u0 u1 := by rw [← h3]; exact returnX_ok ok2 k u0 u1
  have lo : ∀ q j, q + j ≤ B + 16 * N + 2 → numAt G3 q j = numAt G1 q j := fun q j h => by
    rw [e3, returnD_other _ _ _ ok2 (.inl (by omega)), e2, offerD_other _ _ ok1 (.inl h)]
  have t := setD_there (l := l) (p := B + 16 * I) da dn df dx hp hda hdn hdf hdx
  rw [← e1] at t
  refine { o0 := hok, n1 := n1, n2 := n2, n3 := n3, e1 := h1, e2 := h2, e3 := h3, x0 := ?_, x1 := ?_, x2 := ?_, x3 := ?_, av := ?_, aa := ?_, us := ?_, ua := ?_, ub := ?_, dd := ?_, uu := ?_, tk := ?_, dp := ?_ }
  · rw [descX_ok ok3 hI, lo _ _ (by omega)]; exact t.1
  · rw [descX_ok ok3 hI, lo _ _ (by omega)]; exact t.2.1
  · rw [descX_ok ok3 hI, lo _ _ (by omega)]; exact t.2.2.1
  · rw [descX_ok ok3 hI, lo _ _ (by omega)]; exact t.2.2.2
  · rw [availX_ok ok3, e3, returnD_other _ _ _ ok2 (.inl (by omega)), e2, offerD_index k I ok1]
  · rw [availAtX_ok ok3, e3, returnD_other _ _ _ ok2 (.inl (by omega)), e2, offerD_entry k k I rfl (by omega) ok1]
  · rw [usedX_ok ok3, e3, returnD_index k u0 u1 ok2]
  · rw [usedAtX_ok ok3, e3]; exact (returnD_entry k k u0 u1 rfl hu0 hu1 ok2).1
  · rw [usedAtX_ok ok3, e3]; exact (returnD_entry k k u0 u1 rfl hu0 hu1 ok2).2
  · intro j o q hj hne ho
    rw [descX_ok ok3 hj, descX_ok hok hj, lo _ _ (by omega), e1, setD_other _ _ _ _ hp (by omega)]
  · intro j o hj hne ho
    rw [usedAtX_ok ok3, usedAtX_ok hok, Nat.mod_eq_of_lt hj, e3, returnD_other _ _ _ ok2 (.inr ⟨by omega, by omega⟩), e2, offerD_other _ _ ok1 (.inr (by omega)), e1, setD_other _ _ _ _ hp (by omega)]
  · rw [e3, returnD_take _ _ _ ok2 (Nat.le_refl _), e2, offerD_take _ _ ok1 (Nat.le_refl _), e1, setD_take _ _ _ _ hp (by omega)]
  · rw [e3, returnD_drop _ _ _ ok2 (Nat.le_refl _), e2, offerD_drop _ _ ok1 (by omega), e1, setD_drop _ _ _ _ hp (by omega)]

set_option maxHeartbeats 4000000 in
set_option maxRecDepth 100000 in
theorem ringKeeps_out (w : World) (v : Value) (l : List UInt8) (hv : IsArg w v l) (b z i : Int) (da dn df dx k u0 u1 : Nat) (h : ¬ l.length ≤ 3000 ∨ (l.length ≤ 3000 ∧ okR l.length b z = false) ∨ (l.length ≤ 3000 ∧ okR l.length b z = true ∧ i < 0) ∨ (l.length ≤ 3000 ∧ okR l.length b z = true ∧ 0 ≤ i ∧ z ≤ i)) :
    Calls Try.prog 5 #[.agg #[v], .int .i64 b, .int .i64 z, .int .i64 i, .agg #[.int .u64 (da : Nat), .int .u32 (dn : Nat), .int .u16 (df : Nat), .int .u16 (dx : Nat)], .int .u16 (k : Nat), .agg #[.int .u32 (u0 : Nat), .int .u32 (u1 : Nat)]] w fun e w' => e = .returned (.bool true) ∧ Below w.heap.size w w' := by
  obtain ⟨va, vc, rfl, hvc⟩ := hv.shape
  obtain ⟨t1, t2, t3, t4⟩ := came_boxes w (.slice va l.length vc) da dn df dx u0 u1
  have Rm := Lib.hid t1
  have Rd := Lib.hid t2
  have Ru := Lib.hid t3
  have BW := Lib.hid t4
  have HMX := Lib.hid (came_max hv)
  have HV := Lib.hid hv
  have HVC := Lib.hid hvc
  clear t1 t2 t3 t4 hv hvc
  rcases h with h | ⟨h, h1⟩ | ⟨h, h1, h2⟩ | ⟨h, h1, h2, h3⟩
  · have HD := Lib.hid (show false = decide (l.length ≤ 3000) from (decide_eq_false h).symm)
    clear h
    go_enter Try.func5, Try.ntmps5
    go_wp2_with fail
    refine (few_any _ _ _ HMX.out false HD.out _).mono ?_
    rintro e w1 ⟨rfl, hb⟩
    replace Rm := Lib.hid (row_keep Rm.out hb)
    replace Rd := Lib.hid (row_keep Rd.out hb)
    replace Ru := Lib.hid (row_keep Ru.out hb)
    replace BW := Lib.hid (BW.out.trans (hb.mono BW.out.size))
    clear hb
    go_wp2_with fail
    refine (heads_any _).mono ?_
    rintro e w2 ⟨rfl, hb⟩
    replace Rm := Lib.hid (row_keep Rm.out hb)
    replace Rd := Lib.hid (row_keep Rd.out hb)
    replace Ru := Lib.hid (row_keep Ru.out hb)
    replace BW := Lib.hid (BW.out.trans (hb.mono BW.out.size))
    clear hb
    go_wp2
    go_ret
    exact ⟨rfl, BW.out⟩
  · have HD := Lib.hid (show true = decide (l.length ≤ 3000) from (decide_eq_true h).symm)
    have HC := Lib.hid h1
    clear h h1
    go_enter Try.func5, Try.ntmps5
    go_wp2_with fail
    refine (few_any _ _ _ HMX.out true HD.out _).mono ?_
    rintro e w1 ⟨rfl, hb⟩
    replace Rm := Lib.hid (row_keep Rm.out hb)
    replace Rd := Lib.hid (row_keep Rd.out hb)
    replace Ru := Lib.hid (row_keep Ru.out hb)
    replace BW := Lib.hid (BW.out.trans (hb.mono BW.out.size))
    clear hb
    obtain ⟨lRm0c1, zRm0c1⟩ := at_cell Rm.out 0 _ rfl
    clear zRm0c1
    go_wp2_with fail
    refine (refRingCheck_any _ _ _ HMX.out b z false HC.out _).mono ?_
    rintro e w2 ⟨rfl, hb⟩
    clear lRm0c1
    replace Rm := Lib.hid (row_keep Rm.out hb)
    replace Rd := Lib.hid (row_keep Rd.out hb)
    replace Ru := Lib.hid (row_keep Ru.out hb)
    replace BW := Lib.hid (BW.out.trans (hb.mono BW.out.size))
    clear hb
    go_wp2_with fail
    refine (heads_any _).mono ?_
    rintro e w3 ⟨rfl, hb⟩
    replace Rm := Lib.hid (row_keep Rm.out hb)
    replace Rd := Lib.hid (row_keep Rd.out hb)
    replace Ru := Lib.hid (row_keep Ru.out hb)
    replace BW := Lib.hid (BW.out.trans (hb.mono BW.out.size))
    clear hb
    go_wp2
    go_ret
    exact ⟨rfl, BW.out⟩
  · have HD := Lib.hid (show true = decide (l.length ≤ 3000) from (decide_eq_true h).symm)
    have HC := Lib.hid h1
    have d1 : decide (i < 0) = true := decide_eq_true h2
    clear h h1 h2
    go_enter Try.func5, Try.ntmps5
    go_wp2_with fail
    refine (few_any _ _ _ HMX.out true HD.out _).mono ?_
    rintro e w1 ⟨rfl, hb⟩
    replace Rm := Lib.hid (row_keep Rm.out hb)
    replace Rd := Lib.hid (row_keep Rd.out hb)
    replace Ru := Lib.hid (row_keep Ru.out hb)
    replace BW := Lib.hid (BW.out.trans (hb.mono BW.out.size))
    clear hb
    obtain ⟨lRm0c1, zRm0c1⟩ := at_cell Rm.out 0 _ rfl
    clear zRm0c1
    go_wp2_with fail
    refine (refRingCheck_any _ _ _ HMX.out b z true HC.out _).mono ?_
    rintro e w2 ⟨rfl, hb⟩
    clear lRm0c1
    replace Rm := Lib.hid (row_keep Rm.out hb)
    replace Rd := Lib.hid (row_keep Rd.out hb)
    replace Ru := Lib.hid (row_keep Ru.out hb)
    replace BW := Lib.hid (BW.out.trans (hb.mono BW.out.size))
    clear hb
    go_wp2_with fail
    refine (heads_any _).mono ?_
    rintro e w3 ⟨rfl, hb⟩
    replace Rm := Lib.hid (row_keep Rm.out hb)
    replace Rd := Lib.hid (row_keep Rd.out hb)
    replace Ru := Lib.hid (row_keep Ru.out hb)
    replace BW := Lib.hid (BW.out.trans (hb.mono BW.out.size))
    clear hb
    go_wp2
    go_ret
    exact ⟨rfl, BW.out⟩
  · have HD := Lib.hid (show true = decide (l.length ≤ 3000) from (decide_eq_true h).symm)
    have HC := Lib.hid h1
    have d1 : decide (i < 0) = false := decide_eq_false (by omega)
    have d2 : decide (z ≤ i) = true := decide_eq_true h3
    clear h h1 h2 h3
    go_enter Try.func5, Try.ntmps5
    go_wp2_with fail
    refine (few_any _ _ _ HMX.out true HD.out _).mono ?_
    rintro e w1 ⟨rfl, hb⟩
    replace Rm := Lib.hid (row_keep Rm.out hb)
    replace Rd := Lib.hid (row_keep Rd.out hb)
    replace Ru := Lib.hid (row_keep Ru.out hb)
    replace BW := Lib.hid (BW.out.trans (hb.mono BW.out.size))
    clear hb
    obtain ⟨lRm0c1, zRm0c1⟩ := at_cell Rm.out 0 _ rfl
    clear zRm0c1
    go_wp2_with fail
    refine (refRingCheck_any _ _ _ HMX.out b z true HC.out _).mono ?_
    rintro e w2 ⟨rfl, hb⟩
    clear lRm0c1
    replace Rm := Lib.hid (row_keep Rm.out hb)
    replace Rd := Lib.hid (row_keep Rd.out hb)
    replace Ru := Lib.hid (row_keep Ru.out hb)
    replace BW := Lib.hid (BW.out.trans (hb.mono BW.out.size))
    clear hb
    go_wp2_with fail
    refine (heads_any _).mono ?_
    rintro e w3 ⟨rfl, hb⟩
    replace Rm := Lib.hid (row_keep Rm.out hb)
    replace Rd := Lib.hid (row_keep Rd.out hb)
    replace Ru := Lib.hid (row_keep Ru.out hb)
    replace BW := Lib.hid (BW.out.trans (hb.mono BW.out.size))
    clear hb
    go_wp2
    go_ret
    exact ⟨rfl, BW.out⟩
structure RingKeepsX where
  b0 : Bool
  b1 : Bool
  b2 : Bool
  b3 : Bool
  b4 : Bool
  b5 : Bool
  b6 : Bool
  b7 : Bool
  b8 : Bool
  b9 : Bool
  b10 : Bool
  b11 : Bool
  b12 : Bool
  b13 : Bool
  b14 : Bool
  b15 : Bool
  b16 : Bool
  b17 : Bool
  b18 : Bool
  b19 : Bool
  b20 : Bool
  b21 : Bool
  b22 : Bool
  b23 : Bool
  b24 : Bool
  b25 : Bool
  b26 : Bool
  b27 : Bool
  s234 : Value
  s235 : Value
  s236 : Value
  s237 : Value
  s238 : Value
  s239 : Value
  s240 : Value
  s241 : Value
  s242 : Value
  s243 : Value
  s244 : Value
  s245 : Value
  s246 : Value
  s247 : Value
  s248 : Value
  s249 : Value
  s250 : Value
  s251 : Value
  s252 : Value
  s253 : Value
  s254 : Value
  s255 : Value
  s256 : Value
  s257 : Value
  s258 : Value
  s259 : Value
  s260 : Value
  s14 : Value

set_option maxHeartbeats 8000000 in
set_option maxRecDepth 100000 in
theorem ringKeeps_in (w : World) (v : Value) (l : List UInt8) (hv : IsArg w v l) (B N I : Nat) (hok : RingOk l.length B N) (hI : I < N) (da : Nat) (hda : da < 18446744073709551616) (dn : Nat) (hdn : dn < 4294967296) (df : Nat) (hdf : df < 65536) (dx : Nat) (hdx : dx < 65536) (k : Nat) (hk : k < 65536) (u0 : Nat) (hu0 : u0 < 4294967296) (u1 : Nat) (hu1 : u1 < 4294967296) (h : l.length ≤ 3000) :
    Calls Try.prog 5 #[.agg #[v], .int .i64 (B : Nat), .int .i64 (N : Nat), .int .i64 (I : Nat), .agg #[.int .u64 (da : Nat), .int .u32 (dn : Nat), .int .u16 (df : Nat), .int .u16 (dx : Nat)], .int .u16 (k : Nat), .agg #[.int .u32 (u0 : Nat), .int .u32 (u1 : Nat)]] w fun e w' => e = .returned (.bool true) ∧ Below w.heap.size w w' := by
  obtain ⟨va, vc, rfl, hvc⟩ := hv.shape
  obtain ⟨t1, t2, t3, t4⟩ := came_boxes w (.slice va l.length vc) da dn df dx u0 u1
  have Rm := Lib.hid t1
  have Rd := Lib.hid t2
  have Ru := Lib.hid t3
  have BW := Lib.hid t4
  have HMX := Lib.hid (came_max hv)
  have HV := Lib.hid hv
  have HVC := Lib.hid hvc
  clear t1 t2 t3 t4 hv hvc
  have HD := Lib.hid (show true = decide (l.length ≤ 3000) from (decide_eq_true h).symm)
  have HC := Lib.hid hok.ok
  have HL := Lib.hid (show l.length ≤ 140737488355328 by omega)
  have HNL := Lib.hid hok.right.le
  have hle := hok.right.le
  have HKK := Lib.hid hk
  have HDN := Lib.hid hdn
  have HDF := Lib.hid hdf
  have HDX := Lib.hid hdx
  have HU0 := Lib.hid hu0
  have HU1 := Lib.hid hu1
  obtain ⟨G1, h1⟩ : ∃ G, setX l (B : Nat) (N : Nat) (I : Nat) da dn df dx = G := ⟨_, rfl⟩
  obtain ⟨G2, h2⟩ : ∃ G, offerX G1 (B : Nat) (N : Nat) k (I : Nat) = G := ⟨_, rfl⟩
  obtain ⟨G3, h3⟩ : ∃ G, returnX G2 (B : Nat) (N : Nat) k u0 u1 = G := ⟨_, rfl⟩
  have HK := Lib.hid (keep_plain l B N I k da dn df dx u0 u1 hok hI hda hdn hdf hdx hu0 hu1 G1 G2 G3 h1 h2 h3)
  have HFR := Lib.hid (show ∀ q : List UInt8, q.length = l.length → ringF q.length (B : Nat) (N : Nat) = 0 from fun q hq => by rw [hq]; exact ringF_ok hok)
  have HFX := Lib.hid (show ∀ q : List UInt8, q.length = l.length → descF q.length (B : Nat) (N : Nat) (I : Nat) = 0 from fun q hq => by rw [hq]; exact descF_ok hok hI)
  have HFD := Lib.hid (descF_ok hok hI)
  obtain ⟨k1, hk1⟩ : ∃ q, q = (k + 1) % 65536 := ⟨_, rfl⟩
  have HK1 := Lib.hid hk1
  have hw1 : IntKind.u16.wrap (((k : Nat) : Int) + 1) = (k1 : Nat) := by simp [IntKind.wrap, IntKind.bits, IntKind.signed]; omega
  have d1 : decide (((I : Nat) : Int) < 0) = false := decide_eq_false (by omega)
  have d2 : decide (N ≤ I) = false := decide_eq_false (by omega)
  have d3 : decide (((N : Nat) : Int) ≤ ((I : Nat) : Int)) = false := decide_eq_false (by omega)
  clear h hle hda hdn hdf hdx hu0 hu1 h1 h2 h3 hk1 hk hok hI
  go_enter Try.func5, Try.ntmps5
  go_wp2_with fail
  refine (few_any _ _ _ HMX.out true HD.out _).mono ?_
  rintro e w1 ⟨rfl, hb⟩
  replace Rm := Lib.hid (row_keep Rm.out hb)
  replace Rd := Lib.hid (row_keep Rd.out hb)
  replace Ru := Lib.hid (row_keep Ru.out hb)
  replace BW := Lib.hid (BW.out.trans (hb.mono BW.out.size))
  clear hb
  obtain ⟨lRm0c1, zRm0c1⟩ := at_cell Rm.out 0 _ rfl
  clear zRm0c1
  go_wp2_with fail
  refine (refRingCheck_any _ _ _ HMX.out (B : Nat) (N : Nat) true HC.out _).mono ?_
  rintro e w2 ⟨rfl, hb⟩
  clear lRm0c1
  replace Rm := Lib.hid (row_keep Rm.out hb)
  replace Rd := Lib.hid (row_keep Rd.out hb)
  replace Ru := Lib.hid (row_keep Ru.out hb)
  replace BW := Lib.hid (BW.out.trans (hb.mono BW.out.size))
  clear hb
  obtain ⟨lRm0c2, zRm0c2⟩ := at_cell Rm.out 0 _ rfl
  clear zRm0c2
  obtain ⟨lRd0c3, zRd0c3⟩ := at_cell Rd.out 0 _ rfl
  clear zRd0c3
  obtain ⟨lRd1c4, zRd1c4⟩ := at_cell Rd.out 1 _ rfl
  clear zRd1c4
  obtain ⟨lRd2c5, zRd2c5⟩ := at_cell Rd.out 2 _ rfl
  clear zRd2c5
  obtain ⟨lRd3c6, zRd3c6⟩ := at_cell Rd.out 3 _ rfl
  clear zRd3c6
  go_wp2_with fail
  refine (setDesc_any _ l (B : Nat) (N : Nat) (I : Nat) da dn df dx HDN.out HDF.out HDX.out 0 G1 HFD.out HK.out.e1 HL.out _ (HV.out.below BW.out)).mono ?_
  rintro e w3 ⟨ap1, cp1, rfl, hd, hb⟩
  replace hd := hd.base BW.out.size
  clear lRm0c2 lRd0c3 lRd1c4 lRd2c5 lRd3c6
  replace Rm := Lib.hid (row_keep Rm.out hb)
  replace Rd := Lib.hid (row_keep Rd.out hb)
  replace Ru := Lib.hid (row_keep Ru.out hb)
  replace BW := Lib.hid (BW.out.trans (hb.mono BW.out.size))
  have Pp1 := Lib.hid hd
  clear hd hb
  clear d1 d2 d3
  have hlow := (Array.getElem?_eq_some_iff.1 Ru.out).1
  have hbx : Below (w3).heap.size (w3) ((w3).alloc (.cells #[.slice ap1 l.length cp1] 28)) := (Below.refl _ _).alloc (Nat.le_refl _) _
  replace Rm := Lib.hid (row_keep Rm.out hbx)
  replace Rd := Lib.hid (row_keep Rd.out hbx)
  replace Ru := Lib.hid (row_keep Ru.out hbx)
  replace BW := Lib.hid (BW.out.trans (hbx.mono BW.out.size))
  replace Pp1 := Lib.hid (Pp1.out.below hbx)
  have Rp := Lib.hid (heap_alloc_new (w3) (.cells #[.slice ap1 l.length cp1] 28))
  clear hbx
  obtain ⟨gp, hgp⟩ : ∃ x, x = (w3).heap.size := ⟨_, rfl⟩
  have Lgp := Lib.hid (show w.heap.size + 1 + 1 < gp from by rw [hgp]; exact hlow)
  clear hlow
  have NE := Lib.hid (show w.heap.size + 1 + 1 < gp from Lgp.out)
  clear Lgp
  go_wp2_with fail
  rw [← hgp] at Rp ⊢
  clear hgp
  refine (offer_any _ G1 (B : Nat) (N : Nat) k HKK.out (I : Nat) 0 G2 (HFR.out _ HK.out.n1) HK.out.e2 (by rw [HK.out.n1]; exact HL.out) _ (Pp1.out.arg HV.out BW.out)).mono ?_
  rintro e w4 ⟨ap2, cp2, rfl, hd, hb⟩
  have hd2 := Pp1.out.step hd BW.out.size (fun q => q.below hb)
  rw [HK.out.n1] at hd2
  replace Rm := Lib.hid (row_keep Rm.out hb)
  replace Rd := Lib.hid (row_keep Rd.out hb)
  replace Ru := Lib.hid (row_keep Ru.out hb)
  replace BW := Lib.hid (BW.out.trans (hb.mono BW.out.size))
  replace Pp1 := Lib.hid (Pp1.out.below hb)
  replace Rp := Lib.hid (row_keep Rp.out hb)
  have Pp2 := Lib.hid hd2
  clear hd hd2 hb
  clear Pp1
  rw [HK.out.n1]
  obtain ⟨lRp0c7, zRp0c7⟩ := at_cell Rp.out 0 _ rfl
  replace Rm := Lib.hid (one_other Rm.out ⟨gp, 0, none⟩ (.slice ap2 l.length cp2) (by have h := NE.out; show gp ≠ w.heap.size; omega))
  replace Rd := Lib.hid (one_other Rd.out ⟨gp, 0, none⟩ (.slice ap2 l.length cp2) (by have h := NE.out; show gp ≠ w.heap.size + 1; omega))
  replace Ru := Lib.hid (one_other Ru.out ⟨gp, 0, none⟩ (.slice ap2 l.length cp2) (by have h := NE.out; show gp ≠ w.heap.size + 1 + 1; omega))
  replace BW := Lib.hid (BW.out.setCell (p := ⟨gp, 0, none⟩) (by have h := NE.out; show w.heap.size ≤ gp; omega) (.slice ap2 l.length cp2))
  replace Pp2 := Lib.hid (Pp2.out.far Rp.out tneMU (.slice ap2 l.length cp2))
  replace Rp := Lib.hid (one_set Rp.out (.slice ap2 l.length cp2))
  obtain ⟨lRp0c8, zRp0c8⟩ := at_cell Rp.out 0 _ rfl
  clear zRp0c8
  obtain ⟨lRu0c9, zRu0c9⟩ := at_cell Ru.out 0 _ rfl
  clear zRu0c9
  obtain ⟨lRu1c10, zRu1c10⟩ := at_cell Ru.out 1 _ rfl
  clear zRu1c10
  go_wp2_with fail
  refine (return_any _ G2 (B : Nat) (N : Nat) k HKK.out u0 u1 HU0.out HU1.out 0 G3 (HFR.out _ HK.out.n2) HK.out.e3 (by rw [HK.out.n2]; exact HL.out) _ (Pp2.out.arg HV.out BW.out)).mono ?_
  rintro e w5 ⟨ap3, cp3, rfl, hd, hb⟩
  clear lRp0c7 zRp0c7 lRp0c8 lRu0c9 lRu1c10
  have hd2 := Pp2.out.step hd BW.out.size (fun q => q.below hb)
  rw [HK.out.n2] at hd2
  replace Rm := Lib.hid (row_keep Rm.out hb)
  replace Rd := Lib.hid (row_keep Rd.out hb)
  replace Ru := Lib.hid (row_keep Ru.out hb)
  replace BW := Lib.hid (BW.out.trans (hb.mono BW.out.size))
  replace Rp := Lib.hid (row_keep Rp.out hb)
  replace Pp2 := Lib.hid (Pp2.out.below hb)
  have Pp3 := Lib.hid hd2
  clear hd hd2 hb
  clear Pp2
  rw [HK.out.n2]
  obtain ⟨lRp0c11, zRp0c11⟩ := at_cell Rp.out 0 _ rfl
  replace Rm := Lib.hid (one_other Rm.out ⟨gp, 0, none⟩ (.slice ap3 l.length cp3) (by have h := NE.out; show gp ≠ w.heap.size; omega))
  replace Rd := Lib.hid (one_other Rd.out ⟨gp, 0, none⟩ (.slice ap3 l.length cp3) (by have h := NE.out; show gp ≠ w.heap.size + 1; omega))
  replace Ru := Lib.hid (one_other Ru.out ⟨gp, 0, none⟩ (.slice ap3 l.length cp3) (by have h := NE.out; show gp ≠ w.heap.size + 1 + 1; omega))
  replace BW := Lib.hid (BW.out.setCell (p := ⟨gp, 0, none⟩) (by have h := NE.out; show w.heap.size ≤ gp; omega) (.slice ap3 l.length cp3))
  replace Pp3 := Lib.hid (Pp3.out.far Rp.out tneMU (.slice ap3 l.length cp3))
  replace Rp := Lib.hid (one_set Rp.out (.slice ap3 l.length cp3))
  obtain ⟨lRp0c12, zRp0c12⟩ := at_cell Rp.out 0 _ rfl
  clear zRp0c12
  go_wp2_with fail
  refine (desc_any _ G3 (B : Nat) (N : Nat) (I : Nat) 0 da dn df dx (HFX.out _ HK.out.n3) HK.out.x0 HK.out.x1 HK.out.x2 HK.out.x3 (by rw [HK.out.n3]; exact HMX.out) _ (Pp3.out.arg HV.out BW.out)).mono ?_
  rintro e w6 ⟨rfl, hb⟩
  clear lRp0c11 zRp0c11 lRp0c12
  replace Rm := Lib.hid (row_keep Rm.out hb)
  replace Rd := Lib.hid (row_keep Rd.out hb)
  replace Ru := Lib.hid (row_keep Ru.out hb)
  replace BW := Lib.hid (BW.out.trans (hb.mono BW.out.size))
  replace Rp := Lib.hid (row_keep Rp.out hb)
  replace Pp3 := Lib.hid (Pp3.out.below hb)
  clear hb
  have hbx : Below (w6).heap.size (w6) ((w6).alloc (.cells #[.int .u64 (da : Nat), .int .u32 (dn : Nat), .int .u16 (df : Nat), .int .u16 (dx : Nat)] 44)) := (Below.refl _ _).alloc (Nat.le_refl _) _
  replace Rm := Lib.hid (row_keep Rm.out hbx)
  replace Rd := Lib.hid (row_keep Rd.out hbx)
  replace Ru := Lib.hid (row_keep Ru.out hbx)
  replace BW := Lib.hid (BW.out.trans (hbx.mono BW.out.size))
  replace Rp := Lib.hid (row_keep Rp.out hbx)
  replace Pp3 := Lib.hid (Pp3.out.below hbx)
  have Rx := Lib.hid (heap_alloc_new (w6) (.cells #[.int .u64 (da : Nat), .int .u32 (dn : Nat), .int .u16 (df : Nat), .int .u16 (dx : Nat)] 44))
  clear hbx
  obtain ⟨lRp0c13, zRp0c13⟩ := at_cell Rp.out 0 _ rfl
  clear zRp0c13
  go_wp2_with fail
  refine (avail_any _ G3 (B : Nat) (N : Nat) 0 k1 (HFR.out _ HK.out.n3) (by rw [HK1.out]; exact HK.out.av) (by rw [HK.out.n3]; exact HMX.out) _ (Pp3.out.arg HV.out BW.out)).mono ?_
  rintro e w7 ⟨rfl, hb⟩
  clear lRp0c13
  replace Rm := Lib.hid (row_keep Rm.out hb)
  replace Rd := Lib.hid (row_keep Rd.out hb)
  replace Ru := Lib.hid (row_keep Ru.out hb)
  replace BW := Lib.hid (BW.out.trans (hb.mono BW.out.size))
  replace Rp := Lib.hid (row_keep Rp.out hb)
  replace Pp3 := Lib.hid (Pp3.out.below hb)
  replace Rx := Lib.hid (row_keep Rx.out hb)
  clear hb
  obtain ⟨lRp0c14, zRp0c14⟩ := at_cell Rp.out 0 _ rfl
  clear zRp0c14
  go_wp2_with fail
  refine (availAt_any _ G3 (B : Nat) (N : Nat) k HKK.out 0 I (HFR.out _ HK.out.n3) HK.out.aa (by rw [HK.out.n3]; exact HMX.out) _ (Pp3.out.arg HV.out BW.out)).mono ?_
  rintro e w8 ⟨rfl, hb⟩
  clear lRp0c14
  replace Rm := Lib.hid (row_keep Rm.out hb)
  replace Rd := Lib.hid (row_keep Rd.out hb)
  replace Ru := Lib.hid (row_keep Ru.out hb)
  replace BW := Lib.hid (BW.out.trans (hb.mono BW.out.size))
  replace Rp := Lib.hid (row_keep Rp.out hb)
  replace Pp3 := Lib.hid (Pp3.out.below hb)
  replace Rx := Lib.hid (row_keep Rx.out hb)
  clear hb
  obtain ⟨lRp0c15, zRp0c15⟩ := at_cell Rp.out 0 _ rfl
  clear zRp0c15
  go_wp2_with fail
  refine (used_any _ G3 (B : Nat) (N : Nat) 0 k1 (HFR.out _ HK.out.n3) (by rw [HK1.out]; exact HK.out.us) (by rw [HK.out.n3]; exact HMX.out) _ (Pp3.out.arg HV.out BW.out)).mono ?_
  rintro e w9 ⟨rfl, hb⟩
  clear lRp0c15
  replace Rm := Lib.hid (row_keep Rm.out hb)
  replace Rd := Lib.hid (row_keep Rd.out hb)
  replace Ru := Lib.hid (row_keep Ru.out hb)
  replace BW := Lib.hid (BW.out.trans (hb.mono BW.out.size))
  replace Rp := Lib.hid (row_keep Rp.out hb)
  replace Pp3 := Lib.hid (Pp3.out.below hb)
  replace Rx := Lib.hid (row_keep Rx.out hb)
  clear hb
  obtain ⟨lRp0c16, zRp0c16⟩ := at_cell Rp.out 0 _ rfl
  clear zRp0c16
  go_wp2_with fail
  refine (usedAt_any _ G3 (B : Nat) (N : Nat) k HKK.out 0 u0 u1 (HFR.out _ HK.out.n3) HK.out.ua HK.out.ub (by rw [HK.out.n3]; exact HMX.out) _ (Pp3.out.arg HV.out BW.out)).mono ?_
  rintro e w10 ⟨rfl, hb⟩
  clear lRp0c16
  replace Rm := Lib.hid (row_keep Rm.out hb)
  replace Rd := Lib.hid (row_keep Rd.out hb)
  replace Ru := Lib.hid (row_keep Ru.out hb)
  replace BW := Lib.hid (BW.out.trans (hb.mono BW.out.size))
  replace Rp := Lib.hid (row_keep Rp.out hb)
  replace Pp3 := Lib.hid (Pp3.out.below hb)
  replace Rx := Lib.hid (row_keep Rx.out hb)
  clear hb
  have hbx : Below (w10).heap.size (w10) ((w10).alloc (.cells #[.int .u32 (u0 : Nat), .int .u32 (u1 : Nat)] 25)) := (Below.refl _ _).alloc (Nat.le_refl _) _
  replace Rm := Lib.hid (row_keep Rm.out hbx)
  replace Rd := Lib.hid (row_keep Rd.out hbx)
  replace Ru := Lib.hid (row_keep Ru.out hbx)
  replace BW := Lib.hid (BW.out.trans (hbx.mono BW.out.size))
  replace Rp := Lib.hid (row_keep Rp.out hbx)
  replace Pp3 := Lib.hid (Pp3.out.below hbx)
  replace Rx := Lib.hid (row_keep Rx.out hbx)
  have Rw := Lib.hid (heap_alloc_new (w10) (.cells #[.int .u32 (u0 : Nat), .int .u32 (u1 : Nat)] 25))
  clear hbx
  obtain ⟨lRx0c17, zRx0c17⟩ := at_cell Rx.out 0 _ rfl
  clear zRx0c17
  obtain ⟨lRx1c18, zRx1c18⟩ := at_cell Rx.out 1 _ rfl
  clear zRx1c18
  obtain ⟨lRx2c19, zRx2c19⟩ := at_cell Rx.out 2 _ rfl
  clear zRx2c19
  obtain ⟨lRx3c20, zRx3c20⟩ := at_cell Rx.out 3 _ rfl
  clear zRx3c20
  obtain ⟨lRd0c21, zRd0c21⟩ := at_cell Rd.out 0 _ rfl
  clear zRd0c21
  obtain ⟨lRd1c22, zRd1c22⟩ := at_cell Rd.out 1 _ rfl
  clear zRd1c22
  obtain ⟨lRd2c23, zRd2c23⟩ := at_cell Rd.out 2 _ rfl
  clear zRd2c23
  obtain ⟨lRd3c24, zRd3c24⟩ := at_cell Rd.out 3 _ rfl
  clear zRd3c24
  obtain ⟨lRw0c25, zRw0c25⟩ := at_cell Rw.out 0 _ rfl
  clear zRw0c25
  obtain ⟨lRw1c26, zRw1c26⟩ := at_cell Rw.out 1 _ rfl
  clear zRw1c26
  obtain ⟨lRu0c27, zRu0c27⟩ := at_cell Ru.out 0 _ rfl
  clear zRu0c27
  obtain ⟨lRu1c28, zRu1c28⟩ := at_cell Ru.out 1 _ rfl
  clear zRu1c28
  obtain ⟨lRp0c29, zRp0c29⟩ := at_cell Rp.out 0 _ rfl
  clear zRp0c29
  obtain ⟨lRm0c30, zRm0c30⟩ := at_cell Rm.out 0 _ rfl
  clear zRm0c30
  have hq1 := desc_neq da dn df dx da dn df dx true (by simp)
  have hq2 := used_neq u0 u1 u0 u1 true (by simp)
  go_wp2_with fail
  go_loopw [29] (fun x wr => ∃ j : Nat, x = .int .i64 (j : Nat) ∧ j ≤ N ∧ wr.heap[gp]? = some (.cells #[.slice ap3 l.length cp3] 28 (0, 0)) ∧ wr.heap[w.heap.size]? = some (.cells #[.slice va l.length vc] 28 (0, 0)) ∧ Given wr w.heap.size (.slice va l.length vc) l (.slice ap3 l.length cp3) G3 ∧ Below w.heap.size w wr) (fun x _ => N - (intOf x).toNat)
  case atStart => exact ⟨0, rfl, Nat.zero_le _, Rp.out, Rm.out, Pp3.out, BW.out⟩
  case round =>
    obtain ⟨j, rfl, hj, h1, h2, h3, hbw⟩ := hrel
    clear hq1 hq2 lRx0c17 lRx1c18 lRx2c19 lRx3c20 lRd0c21 lRd1c22 lRd2c23 lRd3c24 lRw0c25 lRw1c26 lRu0c27 lRu1c28 lRp0c29 lRm0c30 Rx Rd Rw Ru Rp Rm Pp3 BW
    have Rp := Lib.hid h1
    have Rm := Lib.hid h2
    have Pp3 := Lib.hid h3
    have BW := Lib.hid hbw
    clear h1 h2 h3 hbw
    by_cases hlt : j < N
    · obtain ⟨c0, hc0⟩ : ∃ y, descX G3 (B : Nat) (N : Nat) (j : Nat) 0 8 = y := ⟨_, rfl⟩
      obtain ⟨c1, hc1⟩ : ∃ y, descX G3 (B : Nat) (N : Nat) (j : Nat) 8 4 = y := ⟨_, rfl⟩
      obtain ⟨c2, hc2⟩ : ∃ y, descX G3 (B : Nat) (N : Nat) (j : Nat) 12 2 = y := ⟨_, rfl⟩
      obtain ⟨c3, hc3⟩ : ∃ y, descX G3 (B : Nat) (N : Nat) (j : Nat) 14 2 = y := ⟨_, rfl⟩
      obtain ⟨m0, hm0⟩ : ∃ y, descX l (B : Nat) (N : Nat) (j : Nat) 0 8 = y := ⟨_, rfl⟩
      obtain ⟨m1, hm1⟩ : ∃ y, descX l (B : Nat) (N : Nat) (j : Nat) 8 4 = y := ⟨_, rfl⟩
      obtain ⟨m2, hm2⟩ : ∃ y, descX l (B : Nat) (N : Nat) (j : Nat) 12 2 = y := ⟨_, rfl⟩
      obtain ⟨m3, hm3⟩ : ∃ y, descX l (B : Nat) (N : Nat) (j : Nat) 14 2 = y := ⟨_, rfl⟩
      obtain ⟨v0, hv0⟩ : ∃ y, usedAtX G3 (B : Nat) (N : Nat) j 0 = y := ⟨_, rfl⟩
      obtain ⟨v1, hv1⟩ : ∃ y, usedAtX G3 (B : Nat) (N : Nat) j 4 = y := ⟨_, rfl⟩
      obtain ⟨t0, ht0⟩ : ∃ y, usedAtX l (B : Nat) (N : Nat) j 0 = y := ⟨_, rfl⟩
      obtain ⟨t1, ht1⟩ : ∃ y, usedAtX l (B : Nat) (N : Nat) j 4 = y := ⟨_, rfl⟩
      have hdd := HK.out.dd j
      have huu := HK.out.uu j
      have h16 := HNL.out
      have HCD := Lib.hid (show j ≠ I → c0 = m0 ∧ c1 = m1 ∧ c2 = m2 ∧ c3 = m3 from fun h => ⟨by rw [← hc0, ← hm0]; exact hdd 0 8 hlt h (by decide), by rw [← hc1, ← hm1]; exact hdd 8 4 hlt h (by decide), by rw [← hc2, ← hm2]; exact hdd 12 2 hlt h (by decide), by rw [← hc3, ← hm3]; exact hdd 14 2 hlt h (by decide)⟩)
      have HUD := Lib.hid (show j ≠ k % N → v0 = t0 ∧ v1 = t1 from fun h => ⟨by rw [← hv0, ← ht0]; exact huu 0 hlt h (by decide), by rw [← hv1, ← ht1]; exact huu 4 hlt h (by decide)⟩)
      have HC0 := Lib.hid hc0
      have HC1 := Lib.hid hc1
      have HC2 := Lib.hid hc2
      have HC3 := Lib.hid hc3
      have HM0 := Lib.hid hm0
      have HM1 := Lib.hid hm1
      have HM2 := Lib.hid hm2
      have HM3 := Lib.hid hm3
      have HV0 := Lib.hid hv0
      have HV1 := Lib.hid hv1
      have HT0 := Lib.hid ht0
      have HT1 := Lib.hid ht1
      have HJN := Lib.hid hlt
      have hwj : IntKind.u16.wrap ((j : Nat) : Int) = (j : Nat) := IntWalk.u16_in _ (by omega)
      have hj65 : j < 65536 := by omega
      have HJ65 := Lib.hid hj65
      clear hc0 hc1 hc2 hc3 hm0 hm1 hm2 hm3 hv0 hv1 ht0 ht1 hdd huu h16 hj65
      obtain ⟨lRp0c31, zRp0c31⟩ := at_cell Rp.out 0 _ rfl
      clear zRp0c31
      go_wp2_with fail
      refine (desc_any _ G3 (B : Nat) (N : Nat) (j : Nat) 0 c0 c1 c2 c3 (by rw [HK.out.n3]; exact descF_ok HK.out.o0 HJN.out) HC0.out HC1.out HC2.out HC3.out (by rw [HK.out.n3]; exact HMX.out) _ (Pp3.out.arg HV.out BW.out)).mono ?_
      rintro e w31 ⟨rfl, hb⟩
      clear lRp0c31
      replace Rp := Lib.hid (row_keep Rp.out hb)
      replace Rm := Lib.hid (row_keep Rm.out hb)
      replace Pp3 := Lib.hid (Pp3.out.below hb)
      replace BW := Lib.hid (BW.out.trans (hb.mono BW.out.size))
      clear hb
      have hbx : Below (w31).heap.size (w31) ((w31).alloc (.cells #[.int .u64 (c0 : Nat), .int .u32 (c1 : Nat), .int .u16 (c2 : Nat), .int .u16 (c3 : Nat)] 44)) := (Below.refl _ _).alloc (Nat.le_refl _) _
      replace Rp := Lib.hid (row_keep Rp.out hbx)
      replace Rm := Lib.hid (row_keep Rm.out hbx)
      replace Pp3 := Lib.hid (Pp3.out.below hbx)
      replace BW := Lib.hid (BW.out.trans (hbx.mono BW.out.size))
      have Rc := Lib.hid (heap_alloc_new (w31) (.cells #[.int .u64 (c0 : Nat), .int .u32 (c1 : Nat), .int .u16 (c2 : Nat), .int .u16 (c3 : Nat)] 44))
      clear hbx
      obtain ⟨lRm0c32, zRm0c32⟩ := at_cell Rm.out 0 _ rfl
      clear zRm0c32
      go_wp2_with fail
      refine (desc_any _ l (B : Nat) (N : Nat) (j : Nat) 0 m0 m1 m2 m3 (descF_ok HK.out.o0 HJN.out) HM0.out HM1.out HM2.out HM3.out HMX.out _ (HV.out.below BW.out)).mono ?_
      rintro e w32 ⟨rfl, hb⟩
      clear lRm0c32
      replace Rp := Lib.hid (row_keep Rp.out hb)
      replace Rm := Lib.hid (row_keep Rm.out hb)
      replace Pp3 := Lib.hid (Pp3.out.below hb)
      replace BW := Lib.hid (BW.out.trans (hb.mono BW.out.size))
      replace Rc := Lib.hid (row_keep Rc.out hb)
      clear hb
      have hbx : Below (w32).heap.size (w32) ((w32).alloc (.cells #[.int .u64 (m0 : Nat), .int .u32 (m1 : Nat), .int .u16 (m2 : Nat), .int .u16 (m3 : Nat)] 44)) := (Below.refl _ _).alloc (Nat.le_refl _) _
      replace Rp := Lib.hid (row_keep Rp.out hbx)
      replace Rm := Lib.hid (row_keep Rm.out hbx)
      replace Pp3 := Lib.hid (Pp3.out.below hbx)
      replace BW := Lib.hid (BW.out.trans (hbx.mono BW.out.size))
      replace Rc := Lib.hid (row_keep Rc.out hbx)
      have Rs := Lib.hid (heap_alloc_new (w32) (.cells #[.int .u64 (m0 : Nat), .int .u32 (m1 : Nat), .int .u16 (m2 : Nat), .int .u16 (m3 : Nat)] 44))
      clear hbx
      obtain ⟨lRp0c33, zRp0c33⟩ := at_cell Rp.out 0 _ rfl
      clear zRp0c33
      go_wp2_with fail
      refine (usedAt_any _ G3 (B : Nat) (N : Nat) j HJ65.out 0 v0 v1 (HFR.out _ HK.out.n3) HV0.out HV1.out (by rw [HK.out.n3]; exact HMX.out) _ (Pp3.out.arg HV.out BW.out)).mono ?_
      rintro e w33 ⟨rfl, hb⟩
      clear lRp0c33
      replace Rp := Lib.hid (row_keep Rp.out hb)
      replace Rm := Lib.hid (row_keep Rm.out hb)
      replace Pp3 := Lib.hid (Pp3.out.below hb)
      replace BW := Lib.hid (BW.out.trans (hb.mono BW.out.size))
      replace Rc := Lib.hid (row_keep Rc.out hb)
      replace Rs := Lib.hid (row_keep Rs.out hb)
      clear hb
      have hbx : Below (w33).heap.size (w33) ((w33).alloc (.cells #[.int .u32 (v0 : Nat), .int .u32 (v1 : Nat)] 25)) := (Below.refl _ _).alloc (Nat.le_refl _) _
      replace Rp := Lib.hid (row_keep Rp.out hbx)
      replace Rm := Lib.hid (row_keep Rm.out hbx)
      replace Pp3 := Lib.hid (Pp3.out.below hbx)
      replace BW := Lib.hid (BW.out.trans (hbx.mono BW.out.size))
      replace Rc := Lib.hid (row_keep Rc.out hbx)
      replace Rs := Lib.hid (row_keep Rs.out hbx)
      have Rb := Lib.hid (heap_alloc_new (w33) (.cells #[.int .u32 (v0 : Nat), .int .u32 (v1 : Nat)] 25))
      clear hbx
      obtain ⟨lRm0c34, zRm0c34⟩ := at_cell Rm.out 0 _ rfl
      clear zRm0c34
      go_wp2_with fail
      refine (usedAt_any _ l (B : Nat) (N : Nat) j HJ65.out 0 t0 t1 (HFR.out _ rfl) HT0.out HT1.out HMX.out _ (HV.out.below BW.out)).mono ?_
      rintro e w34 ⟨rfl, hb⟩
      clear lRm0c34
      replace Rp := Lib.hid (row_keep Rp.out hb)
      replace Rm := Lib.hid (row_keep Rm.out hb)
      replace Pp3 := Lib.hid (Pp3.out.below hb)
      replace BW := Lib.hid (BW.out.trans (hb.mono BW.out.size))
      replace Rc := Lib.hid (row_keep Rc.out hb)
      replace Rs := Lib.hid (row_keep Rs.out hb)
      replace Rb := Lib.hid (row_keep Rb.out hb)
      clear hb
      have hbx : Below (w34).heap.size (w34) ((w34).alloc (.cells #[.int .u32 (t0 : Nat), .int .u32 (t1 : Nat)] 25)) := (Below.refl _ _).alloc (Nat.le_refl _) _
      replace Rp := Lib.hid (row_keep Rp.out hbx)
      replace Rm := Lib.hid (row_keep Rm.out hbx)
      replace Pp3 := Lib.hid (Pp3.out.below hbx)
      replace BW := Lib.hid (BW.out.trans (hbx.mono BW.out.size))
      replace Rc := Lib.hid (row_keep Rc.out hbx)
      replace Rs := Lib.hid (row_keep Rs.out hbx)
      replace Rb := Lib.hid (row_keep Rb.out hbx)
      have Rt := Lib.hid (heap_alloc_new (w34) (.cells #[.int .u32 (t0 : Nat), .int .u32 (t1 : Nat)] 25))
      clear hbx
      obtain ⟨kq, hkq⟩ : ∃ q, k % N = q := ⟨_, rfl⟩
      have hn1 := HNL.out
      have hkl := HKK.out
      have htm : ((k : Nat) : Int).tmod ((N : Nat) : Int) = (kq : Nat) := by rw [Int.tmod_eq_emod_of_nonneg (by omega)]; omega
      have hem : (k : Int) % (N : Nat) = (kq : Nat) := by omega
      have hz : ¬ (N = 0) := by omega
      have hwk : IntKind.i64.wrap ((k : Nat) : Int) = (k : Nat) := IntWalk.i64_in _ (by omega)
      rw [hkq] at HUD
      clear hn1 hkl
      obtain ⟨lRc0c35, zRc0c35⟩ := at_cell Rc.out 0 _ rfl
      clear zRc0c35
      obtain ⟨lRc1c36, zRc1c36⟩ := at_cell Rc.out 1 _ rfl
      clear zRc1c36
      obtain ⟨lRc2c37, zRc2c37⟩ := at_cell Rc.out 2 _ rfl
      clear zRc2c37
      obtain ⟨lRc3c38, zRc3c38⟩ := at_cell Rc.out 3 _ rfl
      clear zRc3c38
      obtain ⟨lRs0c39, zRs0c39⟩ := at_cell Rs.out 0 _ rfl
      clear zRs0c39
      obtain ⟨lRs1c40, zRs1c40⟩ := at_cell Rs.out 1 _ rfl
      clear zRs1c40
      obtain ⟨lRs2c41, zRs2c41⟩ := at_cell Rs.out 2 _ rfl
      clear zRs2c41
      obtain ⟨lRs3c42, zRs3c42⟩ := at_cell Rs.out 3 _ rfl
      clear zRs3c42
      obtain ⟨lRb0c43, zRb0c43⟩ := at_cell Rb.out 0 _ rfl
      clear zRb0c43
      obtain ⟨lRb1c44, zRb1c44⟩ := at_cell Rb.out 1 _ rfl
      clear zRb1c44
      obtain ⟨lRt0c45, zRt0c45⟩ := at_cell Rt.out 0 _ rfl
      clear zRt0c45
      obtain ⟨lRt1c46, zRt1c46⟩ := at_cell Rt.out 1 _ rfl
      clear zRt1c46
      by_cases hjI : j = I
      · subst hjI
        have b1 : (((j : Nat) : Int) != ((j : Nat) : Int)) = false := by simp
        have b2 : (j != j) = false := by simp
        by_cases hjk : j = kq
        · subst hjk
          have hb1 := HJN.out
          have hb2 := HNL.out.2
          go_wp2
          go_roundw
          case rel => exact ⟨j + 1, by go_num, by omega, Rp.out, Rm.out, Pp3.out, BW.out⟩
          case measure => simp [intOf]; omega
        · have hne2 : ((j : Nat) : Int) ≠ ((kq : Nat) : Int) := by omega
          obtain ⟨rfl, rfl⟩ := HUD.out hjk
          have hq2 := used_neq v0 v1 v0 v1 true (by simp)
          have b5 : (((j : Nat) : Int) != ((kq : Nat) : Int)) = true := by rw [bne_iff_ne]; exact hne2
          have b6 : (j != kq) = true := by rw [bne_iff_ne]; exact hjk
          have b7 : (((j : Nat) : Int) == ((kq : Nat) : Int)) = false := by rw [beq_eq_false_iff_ne]; exact hne2
          have b8 : (j == kq) = false := by rw [beq_eq_false_iff_ne]; exact hjk
          clear hne2
          have hb1 := HJN.out
          have hb2 := HNL.out.2
          go_wp2
          go_roundw
          case rel => exact ⟨j + 1, by go_num, by omega, Rp.out, Rm.out, Pp3.out, BW.out⟩
          case measure => simp [intOf]; omega
      · have hne1 : ((j : Nat) : Int) ≠ ((I : Nat) : Int) := by omega
        obtain ⟨rfl, rfl, rfl, rfl⟩ := HCD.out hjI
        have hq1 := desc_neq c0 c1 c2 c3 c0 c1 c2 c3 true (by simp)
        have b1 : (((j : Nat) : Int) != ((I : Nat) : Int)) = true := by rw [bne_iff_ne]; exact hne1
        have b2 : (j != I) = true := by rw [bne_iff_ne]; exact hjI
        have b3 : (((j : Nat) : Int) == ((I : Nat) : Int)) = false := by rw [beq_eq_false_iff_ne]; exact hne1
        have b4 : (j == I) = false := by rw [beq_eq_false_iff_ne]; exact hjI
        clear hne1
        by_cases hjk : j = kq
        · subst hjk
          have hb1 := HJN.out
          have hb2 := HNL.out.2
          go_wp2
          go_roundw
          case rel => exact ⟨j + 1, by go_num, by omega, Rp.out, Rm.out, Pp3.out, BW.out⟩
          case measure => simp [intOf]; omega
        · have hne2 : ((j : Nat) : Int) ≠ ((kq : Nat) : Int) := by omega
          obtain ⟨rfl, rfl⟩ := HUD.out hjk
          have hq2 := used_neq v0 v1 v0 v1 true (by simp)
          have b5 : (((j : Nat) : Int) != ((kq : Nat) : Int)) = true := by rw [bne_iff_ne]; exact hne2
          have b6 : (j != kq) = true := by rw [bne_iff_ne]; exact hjk
          have b7 : (((j : Nat) : Int) == ((kq : Nat) : Int)) = false := by rw [beq_eq_false_iff_ne]; exact hne2
          have b8 : (j == kq) = false := by rw [beq_eq_false_iff_ne]; exact hjk
          clear hne2
          have hb1 := HJN.out
          have hb2 := HNL.out.2
          go_wp2
          go_roundw
          case rel => exact ⟨j + 1, by go_num, by omega, Rp.out, Rm.out, Pp3.out, BW.out⟩
          case measure => simp [intOf]; omega
    · obtain rfl : j = N := by omega
      obtain ⟨wB, hwB⟩ : ∃ x, x = wr := ⟨_, rfl⟩
      subst hwB
      clear hlt hj
      obtain ⟨en, hen⟩ : ∃ q, q = B + sizeN j := ⟨_, rfl⟩
      obtain ⟨sz, hsz⟩ : ∃ q, q = sizeN j := ⟨_, rfl⟩
      have hfit := HK.out.o0.fits
      have hrt := HK.out.o0.right
      have hsz2 := sizeZ_of hrt
      rw [← hsz] at hsz2 hen hfit
      have HSZ := Lib.hid hsz2
      have henl : en ≤ l.length := by omega
      have hadd : ((B : Nat) : Int) + ((sz : Nat) : Int) = (en : Nat) := by omega
      have hl8 := HK.out.o0.few
      have HWA := Lib.hid (show ((B : Nat) : Int) + ((sz : Nat) : Int) = (en : Nat) ∧ en ≤ l.length ∧ B ≤ l.length ∧ l.length ≤ 8192 by omega)
      have HP := Lib.hid (Pp3.out.arg HV.out BW.out)
      obtain ⟨qa, qc, hsh, hpc⟩ := HP.out.shape
      have hpc2 : l.length ≤ cp3 := by
        have e : G3.length = l.length := HK.out.n3
        injection hsh with _ _ h3
        omega
      have HPC := Lib.hid hpc2
      obtain ⟨str1, hs1⟩ : ∃ s : ByteArray, s = ⟨(l.take B).toArray⟩ := ⟨_, rfl⟩
      obtain ⟨str2, hs2⟩ : ∃ s : ByteArray, s = ⟨(l.drop en).toArray⟩ := ⟨_, rfl⟩
      have htk := HK.out.tk
      have hdp := HK.out.dp
      rw [← hsz] at hdp
      rw [← hen] at hdp
      clear hsh hpc hen hsz hfit hrt hsz2 hl8
      have HTK := Lib.hid htk
      have HDP := Lib.hid hdp
      have HS1 := Lib.hid hs1
      have HS2 := Lib.hid hs2
      clear htk hdp hs1 hs2
      have hpt := cutTo ap3 l.length cp3 B (by have h1 := HPC.out; have h2 := HWA.out; omega)
      obtain ⟨qpt, hpt2⟩ : ∃ q, q = sliced ap3 0 B cp3 1 := ⟨_, rfl⟩
      rw [← hpt2] at hpt
      have Cpt := Lib.hid (show ∀ W, IsArg W (.slice ap3 l.length cp3) G3 → (convert 26 9 qpt).run Try.prog W = .ok (.string str1) W from fun W h => by
        have h1 := HPC.out
        have h2 := HWA.out
        have h5 := HK.out.n3
        have h3 := h.part 0 B cp3 (by omega) (by omega) (by omega) (Nat.le_refl _)
        rw [← hpt2] at h3
        have h4 := conv_bytes h3.1
        rw [Nat.sub_zero, List.drop_zero] at h4
        rw [HTK.out] at h4
        rw [HS1.out]
        exact h4)
      have Spt := Lib.hid hpt
      clear hpt hpt2
      have hmt := cutTo va l.length vc B (by have h1 := HVC.out; have h2 := HWA.out; omega)
      obtain ⟨qmt, hmt2⟩ : ∃ q, q = sliced va 0 B vc 1 := ⟨_, rfl⟩
      rw [← hmt2] at hmt
      have Cmt := Lib.hid (show ∀ W, IsArg W (.slice va l.length vc) l → (convert 26 9 qmt).run Try.prog W = .ok (.string str1) W from fun W h => by
        have h1 := HVC.out
        have h2 := HWA.out
        have h5 := HK.out.n3
        have h3 := h.part 0 B vc (by omega) (by omega) (by omega) (Nat.le_refl _)
        rw [← hmt2] at h3
        have h4 := conv_bytes h3.1
        rw [Nat.sub_zero, List.drop_zero] at h4
        rw [HS1.out]
        exact h4)
      have Smt := Lib.hid hmt
      clear hmt hmt2
      have hpd := cutFrom ap3 l.length cp3 en (by have h1 := HPC.out; have h2 := HWA.out; omega)
      obtain ⟨qpd, hpd2⟩ : ∃ q, q = sliced ap3 en l.length cp3 1 := ⟨_, rfl⟩
      rw [← hpd2] at hpd
      have Cpd := Lib.hid (show ∀ W, IsArg W (.slice ap3 l.length cp3) G3 → (convert 26 9 qpd).run Try.prog W = .ok (.string str2) W from fun W h => by
        have h1 := HPC.out
        have h2 := HWA.out
        have h5 := HK.out.n3
        have h3 := h.part en l.length cp3 (by omega) (by omega) (by omega) (Nat.le_refl _)
        rw [← hpd2] at h3
        have h4 := conv_bytes h3.1
        rw [List.take_of_length_le (by rw [List.length_drop]; omega)] at h4
        rw [HDP.out] at h4
        rw [HS2.out]
        exact h4)
      have Spd := Lib.hid hpd
      clear hpd hpd2
      have hmd := cutFrom va l.length vc en (by have h1 := HVC.out; have h2 := HWA.out; omega)
      obtain ⟨qmd, hmd2⟩ : ∃ q, q = sliced va en l.length vc 1 := ⟨_, rfl⟩
      rw [← hmd2] at hmd
      have Cmd := Lib.hid (show ∀ W, IsArg W (.slice va l.length vc) l → (convert 26 9 qmd).run Try.prog W = .ok (.string str2) W from fun W h => by
        have h1 := HVC.out
        have h2 := HWA.out
        have h5 := HK.out.n3
        have h3 := h.part en l.length vc (by omega) (by omega) (by omega) (Nat.le_refl _)
        rw [← hmd2] at h3
        have h4 := conv_bytes h3.1
        rw [List.take_of_length_le (by rw [List.length_drop]; omega)] at h4
        rw [HS2.out]
        exact h4)
      have Smd := Lib.hid hmd
      clear hmd hmd2
      have hadd2 := HWA.out.1
      have hen8 : en ≤ 8192 := by have h := HWA.out; omega
      go_wp2_with fail
      refine (size_any _ _ HSZ.out _).mono ?_
      rintro e w51 ⟨rfl, hb⟩
      replace Rp := Lib.hid (row_keep Rp.out hb)
      replace Rm := Lib.hid (row_keep Rm.out hb)
      replace BW := Lib.hid (BW.out.trans (hb.mono BW.out.size))
      replace HP := Lib.hid (HP.out.below hb)
      clear hb
      go_wp2_with fail
      refine wp_region_rec (X := RingKeepsX) (by kernel_rfl) (by kernel_rfl) (fun x => #[x.b0, x.b1, x.b2, x.b3, x.b4, x.b5, x.b6, x.b7, x.b8, x.b9, x.b10, x.b11, x.b12, x.b13, x.b14, x.b15, x.b16, x.b17, x.b18, x.b19, x.b20, x.b21, x.b22, x.b23, x.b24, x.b25, x.b26, x.b27]) (fun x => { tmps := List.toArray ((Value.agg #[Value.slice va l.length vc]) :: (Value.int IntKind.i64 ↑B) :: (Value.int IntKind.i64 ↑j) :: (Value.int IntKind.i64 ↑I) :: (Value.agg #[Value.int IntKind.u64 ↑da, Value.int IntKind.u32 ↑dn, Value.int IntKind.u16 ↑df, Value.int IntKind.u16 ↑dx]) :: (Value.int IntKind.u16 ↑k) :: (Value.agg #[Value.int IntKind.u32 ↑u0, Value.int IntKind.u32 ↑u1]) :: (Value.pointer (some ⟨w.heap.size, 0, none⟩)) :: undef :: undef :: undef :: (Value.pointer (some ⟨w.heap.size + 1, 0, none⟩)) :: undef :: (Value.pointer (some ⟨w.heap.size + 1 + 1, 0, none⟩)) :: x.s14 :: (Value.pointer (some ⟨gp, 0, none⟩)) :: (Value.int IntKind.i64 0) :: (Value.int IntKind.i64 0) :: (Value.int IntKind.i64 0) :: (Value.pointer (some ⟨w6.heap.size, 0, none⟩)) :: (Value.int IntKind.i64 0) :: (Value.int IntKind.u16 ↑k1) :: (Value.int IntKind.i64 0) :: (Value.int IntKind.i64 ↑I) :: (Value.int IntKind.i64 0) :: (Value.int IntKind.u16 ↑k1) :: (Value.int IntKind.i64 0) :: (Value.pointer (some ⟨w10.heap.size, 0, none⟩)) :: (Value.int IntKind.i64 0) :: (Value.int IntKind.i64 ↑j) :: u30 :: u31 :: u32 :: u33 :: u34 :: u35 :: u36 :: u37 :: (Value.int IntKind.i64 ↑en) :: (Value.agg #[Value.slice va l.length vc]) :: (Value.bool true) :: (Value.bool false) :: (Value.bool false) :: (Value.agg #[Value.slice va l.length vc]) :: (Value.int IntKind.i64 ↑B) :: (Value.int IntKind.i64 ↑j) :: (Value.bool true) :: (Value.bool false) :: (Value.bool false) :: (Value.bool false) :: (Value.int IntKind.i64 ↑I) :: (Value.bool false) :: (Value.bool false) :: (Value.bool false) :: (Value.int IntKind.i64 ↑I) :: (Value.int IntKind.i64 ↑j) :: (Value.bool false) :: (Value.bool false) :: undef :: (Value.tuple #[Value.agg #[Value.slice ap1 l.length cp1], Value.int IntKind.i64 0]) :: (Value.agg #[Value.slice va l.length vc]) :: (Value.int IntKind.i64 ↑B) :: (Value.int IntKind.i64 ↑j) :: (Value.int IntKind.i64 ↑I) :: (Value.agg #[Value.int IntKind.u64 ↑da, Value.int IntKind.u32 ↑dn, Value.int IntKind.u16 ↑df, Value.int IntKind.u16 ↑dx]) :: (Value.tuple #[Value.agg #[Value.slice ap1 l.length cp1], Value.int IntKind.i64 0]) :: (Value.agg #[Value.slice ap1 l.length cp1]) :: (Value.int IntKind.i64 0) :: (Value.tuple #[Value.agg #[Value.slice ap2 l.length cp2], Value.int IntKind.i64 0]) :: (Value.agg #[Value.slice ap1 l.length cp1]) :: (Value.int IntKind.i64 ↑B) :: (Value.int IntKind.i64 ↑j) :: (Value.int IntKind.u16 ↑k) :: (Value.int IntKind.i64 ↑I) :: (Value.tuple #[Value.agg #[Value.slice ap2 l.length cp2], Value.int IntKind.i64 0]) :: (Value.agg #[Value.slice ap2 l.length cp2]) :: (Value.int IntKind.i64 0) :: (Value.tuple #[Value.agg #[Value.slice ap3 l.length cp3], Value.int IntKind.i64 0]) :: (Value.agg #[Value.slice ap2 l.length cp2]) :: (Value.int IntKind.i64 ↑B) :: (Value.int IntKind.i64 ↑j) :: (Value.int IntKind.u16 ↑k) :: (Value.agg #[Value.int IntKind.u32 ↑u0, Value.int IntKind.u32 ↑u1]) :: (Value.tuple #[Value.agg #[Value.slice ap3 l.length cp3], Value.int IntKind.i64 0]) :: (Value.agg #[Value.slice ap3 l.length cp3]) :: (Value.int IntKind.i64 0) :: (Value.tuple #[Value.agg #[Value.int IntKind.u64 ↑da, Value.int IntKind.u32 ↑dn, Value.int IntKind.u16 ↑df, Value.int IntKind.u16 ↑dx], Value.int IntKind.i64 0]) :: (Value.agg #[Value.slice ap3 l.length cp3]) :: (Value.int IntKind.i64 ↑B) :: (Value.int IntKind.i64 ↑j) :: (Value.int IntKind.i64 ↑I) :: (Value.tuple #[Value.agg #[Value.int IntKind.u64 ↑da, Value.int IntKind.u32 ↑dn, Value.int IntKind.u16 ↑df, Value.int IntKind.u16 ↑dx], Value.int IntKind.i64 0]) :: (Value.agg #[Value.int IntKind.u64 ↑da, Value.int IntKind.u32 ↑dn, Value.int IntKind.u16 ↑df, Value.int IntKind.u16 ↑dx]) :: (Value.int IntKind.i64 0) :: (Value.tuple #[Value.int IntKind.u16 ↑k1, Value.int IntKind.i64 0]) :: (Value.agg #[Value.slice ap3 l.length cp3]) :: (Value.int IntKind.i64 ↑B) :: (Value.int IntKind.i64 ↑j) :: (Value.tuple #[Value.int IntKind.u16 ↑k1, Value.int IntKind.i64 0]) :: (Value.int IntKind.u16 ↑k1) :: (Value.int IntKind.i64 0) :: (Value.tuple #[Value.int IntKind.i64 ↑I, Value.int IntKind.i64 0]) :: (Value.agg #[Value.slice ap3 l.length cp3]) :: (Value.int IntKind.i64 ↑B) :: (Value.int IntKind.i64 ↑j) :: (Value.int IntKind.u16 ↑k) :: (Value.tuple #[Value.int IntKind.i64 ↑I, Value.int IntKind.i64 0]) :: (Value.int IntKind.i64 ↑I) :: (Value.int IntKind.i64 0) :: (Value.tuple #[Value.int IntKind.u16 ↑k1, Value.int IntKind.i64 0]) :: (Value.agg #[Value.slice ap3 l.length cp3]) :: (Value.int IntKind.i64 ↑B) :: (Value.int IntKind.i64 ↑j) :: (Value.tuple #[Value.int IntKind.u16 ↑k1, Value.int IntKind.i64 0]) :: (Value.int IntKind.u16 ↑k1) :: (Value.int IntKind.i64 0) :: (Value.tuple #[Value.agg #[Value.int IntKind.u32 ↑u0, Value.int IntKind.u32 ↑u1], Value.int IntKind.i64 0]) :: (Value.agg #[Value.slice ap3 l.length cp3]) :: (Value.int IntKind.i64 ↑B) :: (Value.int IntKind.i64 ↑j) :: (Value.int IntKind.u16 ↑k) :: (Value.tuple #[Value.agg #[Value.int IntKind.u32 ↑u0, Value.int IntKind.u32 ↑u1], Value.int IntKind.i64 0]) :: (Value.agg #[Value.int IntKind.u32 ↑u0, Value.int IntKind.u32 ↑u1]) :: (Value.int IntKind.i64 0) :: (Value.int IntKind.i64 0) :: (Value.bool false) :: (Value.bool false) :: (Value.int IntKind.i64 0) :: (Value.bool false) :: (Value.bool false) :: (Value.bool false) :: (Value.int IntKind.i64 0) :: (Value.bool false) :: (Value.bool false) :: (Value.bool false) :: (Value.agg #[Value.int IntKind.u64 ↑da, Value.int IntKind.u32 ↑dn, Value.int IntKind.u16 ↑df, Value.int IntKind.u16 ↑dx]) :: (Value.agg #[Value.int IntKind.u64 ↑da, Value.int IntKind.u32 ↑dn, Value.int IntKind.u16 ↑df, Value.int IntKind.u16 ↑dx]) :: (Value.bool false) :: (Value.bool false) :: (Value.bool false) :: (Value.int IntKind.u16 ↑k1) :: (Value.int IntKind.u16 ↑k) :: (Value.int IntKind.u16 ↑k1) :: (Value.bool false) :: (Value.bool false) :: (Value.bool false) :: (Value.int IntKind.i64 ↑I) :: (Value.int IntKind.i64 ↑I) :: (Value.bool false) :: (Value.bool false) :: (Value.bool false) :: (Value.int IntKind.u16 ↑k1) :: (Value.int IntKind.u16 ↑k) :: (Value.int IntKind.u16 ↑k1) :: (Value.bool false) :: (Value.bool false) :: (Value.bool false) :: (Value.agg #[Value.int IntKind.u32 ↑u0, Value.int IntKind.u32 ↑u1]) :: (Value.agg #[Value.int IntKind.u32 ↑u0, Value.int IntKind.u32 ↑u1]) :: (Value.bool false) :: (Value.bool false) :: (Value.bool false) :: (Value.pointer (some ⟨gp, 0, none⟩)) :: (Value.slice ap3 l.length cp3) :: (Value.int IntKind.i64 ↑l.length) :: (Value.pointer (some ⟨w.heap.size, 0, none⟩)) :: (Value.slice va l.length vc) :: (Value.int IntKind.i64 ↑l.length) :: (Value.bool false) :: (Value.bool false) :: (Value.int IntKind.i64 ↑j) :: (Value.int IntKind.i64 ↑j) :: (Value.bool false) :: u173 :: u174 :: u175 :: u176 :: u177 :: u178 :: u179 :: u180 :: u181 :: u182 :: u183 :: u184 :: u185 :: u186 :: u187 :: u188 :: u189 :: u190 :: u191 :: u192 :: u193 :: u194 :: u195 :: u196 :: u197 :: u198 :: u199 :: u200 :: u201 :: u202 :: u203 :: u204 :: u205 :: u206 :: u207 :: u208 :: u209 :: u210 :: u211 :: u212 :: u213 :: u214 :: u215 :: u216 :: u217 :: u218 :: u219 :: u220 :: u221 :: u222 :: u223 :: u224 :: u225 :: u226 :: u227 :: u228 :: u229 :: (Value.int IntKind.i64 ↑B) :: (Value.int IntKind.i64 ↑j) :: (Value.int IntKind.i64 ↑sz) :: (Value.int IntKind.i64 ↑en) :: x.s234 :: x.s235 :: x.s236 :: x.s237 :: x.s238 :: x.s239 :: x.s240 :: x.s241 :: x.s242 :: x.s243 :: x.s244 :: x.s245 :: x.s246 :: x.s247 :: x.s248 :: x.s249 :: x.s250 :: x.s251 :: x.s252 :: x.s253 :: x.s254 :: x.s255 :: x.s256 :: x.s257 :: x.s258 :: x.s259 :: x.s260 :: []), defers := [] }) (fun x W => (x.b0 = true → x.s234 = .pointer (some ⟨gp, 0, none⟩)) ∧ (x.b1 = true → x.s235 = .slice ap3 l.length cp3) ∧ (x.b2 = true → x.s236 = .int .i64 (B : Nat)) ∧ (x.b3 = true → x.s237 = qpt) ∧ (x.b4 = true → x.s238 = .string str1) ∧ (x.b5 = true → x.s239 = .pointer (some ⟨w.heap.size, 0, none⟩)) ∧ (x.b6 = true → x.s240 = .slice va l.length vc) ∧ (x.b7 = true → x.s241 = .int .i64 (B : Nat)) ∧ (x.b8 = true → x.s242 = qmt) ∧ (x.b9 = true → x.s243 = .string str1) ∧ (x.b10 = true → x.s244 = .bool true) ∧ (x.b11 = true → x.s245 = .bool true) ∧ (x.b12 = true → x.s246 = .pointer (some ⟨gp, 0, none⟩)) ∧ (x.b13 = true → x.s247 = .slice ap3 l.length cp3) ∧ (x.b14 = true → x.s248 = .int .i64 (en : Nat)) ∧ (x.b15 = true → x.s249 = qpd) ∧ (x.b16 = true → x.s250 = .string str2) ∧ (x.b17 = true → x.s251 = .pointer (some ⟨w.heap.size, 0, none⟩)) ∧ (x.b18 = true → x.s252 = .slice va l.length vc) ∧ (x.b19 = true → x.s253 = .int .i64 (en : Nat)) ∧ (x.b20 = true → x.s254 = qmd) ∧ (x.b21 = true → x.s255 = .string str2) ∧ (x.b22 = true → x.s256 = .bool true) ∧ (x.b23 = true → x.s257 = .bool true) ∧ (x.b24 = true → x.s258 = .bool true) ∧ (x.b25 = true → x.s259 = .bool true) ∧ (x.b26 = true → x.s260 = .bool true) ∧ (x.b27 = true → x.s14 = .bool true) ∧ (W.heap[gp]? = some (.cells #[.slice ap3 l.length cp3] 28 (0, 0))) ∧ (W.heap[w.heap.size]? = some (.cells #[.slice va l.length vc] 28 (0, 0))) ∧ (IsArg W (.slice ap3 l.length cp3) G3) ∧ (IsArg W (.slice va l.length vc) l) ∧ (Below w.heap.size w W)) ⟨false, false, false, false, false, false, false, false, false, false, false, false, false, false, false, false, false, false, false, false, false, false, false, false, false, false, false, false, undef, undef, undef, undef, undef, undef, undef, undef, undef, undef, undef, undef, undef, undef, undef, undef, undef, undef, undef, undef, undef, undef, undef, undef, undef, undef, undef, u14⟩ rfl rfl ⟨(fun h => by cases h), (fun h => by cases h), (fun h => by cases h), (fun h => by cases h), (fun h => by cases h), (fun h => by cases h), (fun h => by cases h), (fun h => by cases h), (fun h => by cases h), (fun h => by cases h), (fun h => by cases h), (fun h => by cases h), (fun h => by cases h), (fun h => by cases h), (fun h => by cases h), (fun h => by cases h), (fun h => by cases h), (fun h => by cases h), (fun h => by cases h), (fun h => by cases h), (fun h => by cases h), (fun h => by cases h), (fun h => by cases h), (fun h => by cases h), (fun h => by cases h), (fun h => by cases h), (fun h => by cases h), (fun h => by cases h), Rp.out, Rm.out, (HP.out.below ((Below.refl _ _).drew)), ((HV.out.below BW.out).below ((Below.refl _ _).drew)), BW.out.drew⟩ (fun _ => rfl) ?hstep ?hdone
      case hstep =>
        rintro ⟨b0, b1, b2, b3, b4, b5, b6, b7, b8, b9, b10, b11, b12, b13, b14, b15, b16, b17, b18, b19, b20, b21, b22, b23, b24, b25, b26, b27, s234, s235, s236, s237, s238, s239, s240, s241, s242, s243, s244, s245, s246, s247, s248, s249, s250, s251, s252, s253, s254, s255, s256, s257, s258, s259, s260, s14⟩ W hI i hi
        dsimp only at hI hi ⊢
        have HI := Lib.hid hI
        clear hI
        rw [Region.ready, List.mem_filter, List.mem_range] at hi
        obtain ⟨hlt, hp⟩ := hi
        have hi7 : i = 0 ∨ i = 1 ∨ i = 2 ∨ i = 3 ∨ i = 4 ∨ i = 5 ∨ i = 6 ∨ i = 7 ∨ i = 8 ∨ i = 9 ∨ i = 10 ∨ i = 11 ∨ i = 12 ∨ i = 13 ∨ i = 14 ∨ i = 15 ∨ i = 16 ∨ i = 17 ∨ i = 18 ∨ i = 19 ∨ i = 20 ∨ i = 21 ∨ i = 22 ∨ i = 23 ∨ i = 24 ∨ i = 25 ∨ i = 26 ∨ i = 27 := by simp at hlt; omega
        clear hlt
        rcases hi7 with rfl | rfl | rfl | rfl | rfl | rfl | rfl | rfl | rfl | rfl | rfl | rfl | rfl | rfl | rfl | rfl | rfl | rfl | rfl | rfl | rfl | rfl | rfl | rfl | rfl | rfl | rfl | rfl
        all_goals simp [Region.binds] at hp
        · have hn0 : b0 = false := by revert hp; cases b0 <;> simp
          clear hp
          subst hn0
          refine inv_op (o := ⟨some 234, _, _, _, _, _⟩) rfl (fun K' hK' => ?_)
          go_simp
          obtain ⟨h0, h1, h2, h3, h4, h5, h6, h7, h8, h9, h10, h11, h12, h13, h14, h15, h16, h17, h18, h19, h20, h21, h22, h23, h24, h25, h26, h27, gR, gM, gP, gV, gO⟩ := HI.out
          exact hK'.out _ _ ⟨⟨true, b1, b2, b3, b4, b5, b6, b7, b8, b9, b10, b11, b12, b13, b14, b15, b16, b17, b18, b19, b20, b21, b22, b23, b24, b25, b26, b27, _, s235, s236, s237, s238, s239, s240, s241, s242, s243, s244, s245, s246, s247, s248, s249, s250, s251, s252, s253, s254, s255, s256, s257, s258, s259, s260, s14⟩, rfl, rfl, (fun _ => rfl), h1, h2, h3, h4, h5, h6, h7, h8, h9, h10, h11, h12, h13, h14, h15, h16, h17, h18, h19, h20, h21, h22, h23, h24, h25, h26, h27, gR, gM, gP, gV, gO⟩
        · have hn1 : b1 = false := by revert hp; cases b1 <;> simp
          have e0 : b0 = true := by revert hp; cases b0 <;> simp
          clear hp
          obtain rfl := (HI.out.1) e0
          subst hn1
          refine inv_op (o := ⟨some 235, _, _, _, _, _⟩) rfl (fun K' hK' => ?_)
          have gR := HI.out.2.2.2.2.2.2.2.2.2.2.2.2.2.2.2.2.2.2.2.2.2.2.2.2.2.2.2.2.1
          obtain ⟨hc1, hc2⟩ := one_cell gR
          go_simp
          obtain ⟨h0, h1, h2, h3, h4, h5, h6, h7, h8, h9, h10, h11, h12, h13, h14, h15, h16, h17, h18, h19, h20, h21, h22, h23, h24, h25, h26, h27, gR, gM, gP, gV, gO⟩ := HI.out
          exact hK'.out _ _ ⟨⟨b0, true, b2, b3, b4, b5, b6, b7, b8, b9, b10, b11, b12, b13, b14, b15, b16, b17, b18, b19, b20, b21, b22, b23, b24, b25, b26, b27, _, _, s236, s237, s238, s239, s240, s241, s242, s243, s244, s245, s246, s247, s248, s249, s250, s251, s252, s253, s254, s255, s256, s257, s258, s259, s260, s14⟩, rfl, rfl, h0, (fun _ => rfl), h2, h3, h4, h5, h6, h7, h8, h9, h10, h11, h12, h13, h14, h15, h16, h17, h18, h19, h20, h21, h22, h23, h24, h25, h26, h27, gR, gM, gP, gV, gO⟩
        · have hn2 : b2 = false := by revert hp; cases b2 <;> simp
          clear hp
          subst hn2
          refine inv_op (o := ⟨some 236, _, _, _, _, _⟩) rfl (fun K' hK' => ?_)
          go_simp
          obtain ⟨h0, h1, h2, h3, h4, h5, h6, h7, h8, h9, h10, h11, h12, h13, h14, h15, h16, h17, h18, h19, h20, h21, h22, h23, h24, h25, h26, h27, gR, gM, gP, gV, gO⟩ := HI.out
          exact hK'.out _ _ ⟨⟨b0, b1, true, b3, b4, b5, b6, b7, b8, b9, b10, b11, b12, b13, b14, b15, b16, b17, b18, b19, b20, b21, b22, b23, b24, b25, b26, b27, s234, s235, _, s237, s238, s239, s240, s241, s242, s243, s244, s245, s246, s247, s248, s249, s250, s251, s252, s253, s254, s255, s256, s257, s258, s259, s260, s14⟩, rfl, rfl, h0, h1, (fun _ => rfl), h3, h4, h5, h6, h7, h8, h9, h10, h11, h12, h13, h14, h15, h16, h17, h18, h19, h20, h21, h22, h23, h24, h25, h26, h27, gR, gM, gP, gV, gO⟩
        · have hn3 : b3 = false := by revert hp; cases b3 <;> simp
          have e1 : b1 = true := by revert hp; cases b1 <;> simp
          have e2 : b2 = true := by revert hp; cases b2 <;> simp
          clear hp
          obtain rfl := (HI.out.2.1) e1
          obtain rfl := (HI.out.2.2.1) e2
          subst hn3
          refine inv_op (o := ⟨some 237, _, _, _, _, _⟩) rfl (fun K' hK' => ?_)
          have hsl := Spt.out
          go_simp
          obtain ⟨h0, h1, h2, h3, h4, h5, h6, h7, h8, h9, h10, h11, h12, h13, h14, h15, h16, h17, h18, h19, h20, h21, h22, h23, h24, h25, h26, h27, gR, gM, gP, gV, gO⟩ := HI.out
          exact hK'.out _ _ ⟨⟨b0, b1, b2, true, b4, b5, b6, b7, b8, b9, b10, b11, b12, b13, b14, b15, b16, b17, b18, b19, b20, b21, b22, b23, b24, b25, b26, b27, s234, _, _, _, s238, s239, s240, s241, s242, s243, s244, s245, s246, s247, s248, s249, s250, s251, s252, s253, s254, s255, s256, s257, s258, s259, s260, s14⟩, rfl, rfl, h0, h1, h2, (fun _ => rfl), h4, h5, h6, h7, h8, h9, h10, h11, h12, h13, h14, h15, h16, h17, h18, h19, h20, h21, h22, h23, h24, h25, h26, h27, gR, gM, gP, gV, gO⟩
        · have hn4 : b4 = false := by revert hp; cases b4 <;> simp
          have e3 : b3 = true := by revert hp; cases b3 <;> simp
          clear hp
          obtain rfl := (HI.out.2.2.2.1) e3
          subst hn4
          refine inv_op (o := ⟨some 238, _, _, _, _, _⟩) rfl (fun K' hK' => ?_)
          have gP := HI.out.2.2.2.2.2.2.2.2.2.2.2.2.2.2.2.2.2.2.2.2.2.2.2.2.2.2.2.2.2.2.1
          have hcv := Cpt.out W gP
          go_simp
          obtain ⟨h0, h1, h2, h3, h4, h5, h6, h7, h8, h9, h10, h11, h12, h13, h14, h15, h16, h17, h18, h19, h20, h21, h22, h23, h24, h25, h26, h27, gR, gM, gP, gV, gO⟩ := HI.out
          exact hK'.out _ _ ⟨⟨b0, b1, b2, b3, true, b5, b6, b7, b8, b9, b10, b11, b12, b13, b14, b15, b16, b17, b18, b19, b20, b21, b22, b23, b24, b25, b26, b27, s234, s235, s236, _, _, s239, s240, s241, s242, s243, s244, s245, s246, s247, s248, s249, s250, s251, s252, s253, s254, s255, s256, s257, s258, s259, s260, s14⟩, rfl, rfl, h0, h1, h2, h3, (fun _ => rfl), h5, h6, h7, h8, h9, h10, h11, h12, h13, h14, h15, h16, h17, h18, h19, h20, h21, h22, h23, h24, h25, h26, h27, gR, gM, gP, gV, gO⟩
        · have hn5 : b5 = false := by revert hp; cases b5 <;> simp
          clear hp
          subst hn5
          refine inv_op (o := ⟨some 239, _, _, _, _, _⟩) rfl (fun K' hK' => ?_)
          go_simp
          obtain ⟨h0, h1, h2, h3, h4, h5, h6, h7, h8, h9, h10, h11, h12, h13, h14, h15, h16, h17, h18, h19, h20, h21, h22, h23, h24, h25, h26, h27, gR, gM, gP, gV, gO⟩ := HI.out
          exact hK'.out _ _ ⟨⟨b0, b1, b2, b3, b4, true, b6, b7, b8, b9, b10, b11, b12, b13, b14, b15, b16, b17, b18, b19, b20, b21, b22, b23, b24, b25, b26, b27, s234, s235, s236, s237, s238, _, s240, s241, s242, s243, s244, s245, s246, s247, s248, s249, s250, s251, s252, s253, s254, s255, s256, s257, s258, s259, s260, s14⟩, rfl, rfl, h0, h1, h2, h3, h4, (fun _ => rfl), h6, h7, h8, h9, h10, h11, h12, h13, h14, h15, h16, h17, h18, h19, h20, h21, h22, h23, h24, h25, h26, h27, gR, gM, gP, gV, gO⟩
        · have hn6 : b6 = false := by revert hp; cases b6 <;> simp
          have e5 : b5 = true := by revert hp; cases b5 <;> simp
          clear hp
          obtain rfl := (HI.out.2.2.2.2.2.1) e5
          subst hn6
          refine inv_op (o := ⟨some 240, _, _, _, _, _⟩) rfl (fun K' hK' => ?_)
          have gM := HI.out.2.2.2.2.2.2.2.2.2.2.2.2.2.2.2.2.2.2.2.2.2.2.2.2.2.2.2.2.2.1
          obtain ⟨hc1, hc2⟩ := one_cell gM
          go_simp
          obtain ⟨h0, h1, h2, h3, h4, h5, h6, h7, h8, h9, h10, h11, h12, h13, h14, h15, h16, h17, h18, h19, h20, h21, h22, h23, h24, h25, h26, h27, gR, gM, gP, gV, gO⟩ := HI.out
          exact hK'.out _ _ ⟨⟨b0, b1, b2, b3, b4, b5, true, b7, b8, b9, b10, b11, b12, b13, b14, b15, b16, b17, b18, b19, b20, b21, b22, b23, b24, b25, b26, b27, s234, s235, s236, s237, s238, _, _, s241, s242, s243, s244, s245, s246, s247, s248, s249, s250, s251, s252, s253, s254, s255, s256, s257, s258, s259, s260, s14⟩, rfl, rfl, h0, h1, h2, h3, h4, h5, (fun _ => rfl), h7, h8, h9, h10, h11, h12, h13, h14, h15, h16, h17, h18, h19, h20, h21, h22, h23, h24, h25, h26, h27, gR, gM, gP, gV, gO⟩
        · have hn7 : b7 = false := by revert hp; cases b7 <;> simp
          clear hp
          subst hn7
          refine inv_op (o := ⟨some 241, _, _, _, _, _⟩) rfl (fun K' hK' => ?_)
          go_simp
          obtain ⟨h0, h1, h2, h3, h4, h5, h6, h7, h8, h9, h10, h11, h12, h13, h14, h15, h16, h17, h18, h19, h20, h21, h22, h23, h24, h25, h26, h27, gR, gM, gP, gV, gO⟩ := HI.out
          exact hK'.out _ _ ⟨⟨b0, b1, b2, b3, b4, b5, b6, true, b8, b9, b10, b11, b12, b13, b14, b15, b16, b17, b18, b19, b20, b21, b22, b23, b24, b25, b26, b27, s234, s235, s236, s237, s238, s239, s240, _, s242, s243, s244, s245, s246, s247, s248, s249, s250, s251, s252, s253, s254, s255, s256, s257, s258, s259, s260, s14⟩, rfl, rfl, h0, h1, h2, h3, h4, h5, h6, (fun _ => rfl), h8, h9, h10, h11, h12, h13, h14, h15, h16, h17, h18, h19, h20, h21, h22, h23, h24, h25, h26, h27, gR, gM, gP, gV, gO⟩
        · have hn8 : b8 = false := by revert hp; cases b8 <;> simp
          have e6 : b6 = true := by revert hp; cases b6 <;> simp
          have e7 : b7 = true := by revert hp; cases b7 <;> simp
          clear hp
          obtain rfl := (HI.out.2.2.2.2.2.2.1) e6
          obtain rfl := (HI.out.2.2.2.2.2.2.2.1) e7
          subst hn8
          refine inv_op (o := ⟨some 242, _, _, _, _, _⟩) rfl (fun K' hK' => ?_)
          have hsl := Smt.out
          go_simp
          obtain ⟨h0, h1, h2, h3, h4, h5, h6, h7, h8, h9, h10, h11, h12, h13, h14, h15, h16, h17, h18, h19, h20, h21, h22, h23, h24, h25, h26, h27, gR, gM, gP, gV, gO⟩ := HI.out
          exact hK'.out _ _ ⟨⟨b0, b1, b2, b3, b4, b5, b6, b7, true, b9, b10, b11, b12, b13, b14, b15, b16, b17, b18, b19, b20, b21, b22, b23, b24, b25, b26, b27, s234, s235, s236, s237, s238, s239, _, _, _, s243, s244, s245, s246, s247, s248, s249, s250, s251, s252, s253, s254, s255, s256, s257, s258, s259, s260, s14⟩, rfl, rfl, h0, h1, h2, h3, h4, h5, h6, h7, (fun _ => rfl), h9, h10, h11, h12, h13, h14, h15, h16, h17, h18, h19, h20, h21, h22, h23, h24, h25, h26, h27, gR, gM, gP, gV, gO⟩
        · have hn9 : b9 = false := by revert hp; cases b9 <;> simp
          have e8 : b8 = true := by revert hp; cases b8 <;> simp
          clear hp
          obtain rfl := (HI.out.2.2.2.2.2.2.2.2.1) e8
          subst hn9
          refine inv_op (o := ⟨some 243, _, _, _, _, _⟩) rfl (fun K' hK' => ?_)
          have gV := HI.out.2.2.2.2.2.2.2.2.2.2.2.2.2.2.2.2.2.2.2.2.2.2.2.2.2.2.2.2.2.2.2.1
          have hcv := Cmt.out W gV
          go_simp
          obtain ⟨h0, h1, h2, h3, h4, h5, h6, h7, h8, h9, h10, h11, h12, h13, h14, h15, h16, h17, h18, h19, h20, h21, h22, h23, h24, h25, h26, h27, gR, gM, gP, gV, gO⟩ := HI.out
          exact hK'.out _ _ ⟨⟨b0, b1, b2, b3, b4, b5, b6, b7, b8, true, b10, b11, b12, b13, b14, b15, b16, b17, b18, b19, b20, b21, b22, b23, b24, b25, b26, b27, s234, s235, s236, s237, s238, s239, s240, s241, _, _, s244, s245, s246, s247, s248, s249, s250, s251, s252, s253, s254, s255, s256, s257, s258, s259, s260, s14⟩, rfl, rfl, h0, h1, h2, h3, h4, h5, h6, h7, h8, (fun _ => rfl), h10, h11, h12, h13, h14, h15, h16, h17, h18, h19, h20, h21, h22, h23, h24, h25, h26, h27, gR, gM, gP, gV, gO⟩
        · have hn10 : b10 = false := by revert hp; cases b10 <;> simp
          have e4 : b4 = true := by revert hp; cases b4 <;> simp
          have e9 : b9 = true := by revert hp; cases b9 <;> simp
          clear hp
          obtain rfl := (HI.out.2.2.2.2.1) e4
          obtain rfl := (HI.out.2.2.2.2.2.2.2.2.2.1) e9
          subst hn10
          refine inv_op (o := ⟨some 244, _, _, _, _, _⟩) rfl (fun K' hK' => ?_)
          have hes := eql_self str1
          go_simp
          obtain ⟨h0, h1, h2, h3, h4, h5, h6, h7, h8, h9, h10, h11, h12, h13, h14, h15, h16, h17, h18, h19, h20, h21, h22, h23, h24, h25, h26, h27, gR, gM, gP, gV, gO⟩ := HI.out
          exact hK'.out _ _ ⟨⟨b0, b1, b2, b3, b4, b5, b6, b7, b8, b9, true, b11, b12, b13, b14, b15, b16, b17, b18, b19, b20, b21, b22, b23, b24, b25, b26, b27, s234, s235, s236, s237, _, s239, s240, s241, s242, _, _, s245, s246, s247, s248, s249, s250, s251, s252, s253, s254, s255, s256, s257, s258, s259, s260, s14⟩, rfl, rfl, h0, h1, h2, h3, h4, h5, h6, h7, h8, h9, (fun _ => rfl), h11, h12, h13, h14, h15, h16, h17, h18, h19, h20, h21, h22, h23, h24, h25, h26, h27, gR, gM, gP, gV, gO⟩
        · have hn11 : b11 = false := by revert hp; cases b11 <;> simp
          have e10 : b10 = true := by revert hp; cases b10 <;> simp
          clear hp
          obtain rfl := (HI.out.2.2.2.2.2.2.2.2.2.2.1) e10
          subst hn11
          refine inv_op (o := ⟨some 245, _, _, _, _, _⟩) rfl (fun K' hK' => ?_)
          go_simp
          obtain ⟨h0, h1, h2, h3, h4, h5, h6, h7, h8, h9, h10, h11, h12, h13, h14, h15, h16, h17, h18, h19, h20, h21, h22, h23, h24, h25, h26, h27, gR, gM, gP, gV, gO⟩ := HI.out
          exact hK'.out _ _ ⟨⟨b0, b1, b2, b3, b4, b5, b6, b7, b8, b9, b10, true, b12, b13, b14, b15, b16, b17, b18, b19, b20, b21, b22, b23, b24, b25, b26, b27, s234, s235, s236, s237, s238, s239, s240, s241, s242, s243, _, _, s246, s247, s248, s249, s250, s251, s252, s253, s254, s255, s256, s257, s258, s259, s260, s14⟩, rfl, rfl, h0, h1, h2, h3, h4, h5, h6, h7, h8, h9, h10, (fun _ => rfl), h12, h13, h14, h15, h16, h17, h18, h19, h20, h21, h22, h23, h24, h25, h26, h27, gR, gM, gP, gV, gO⟩
        · have hn12 : b12 = false := by revert hp; cases b12 <;> simp
          have e11 : b11 = true := by revert hp; cases b11 <;> simp
          clear hp
          obtain rfl := (HI.out.2.2.2.2.2.2.2.2.2.2.2.1) e11
          subst hn12
          refine inv_op (o := ⟨some 246, _, _, _, _, _⟩) rfl (fun K' hK' => ?_)
          go_simp
          obtain ⟨h0, h1, h2, h3, h4, h5, h6, h7, h8, h9, h10, h11, h12, h13, h14, h15, h16, h17, h18, h19, h20, h21, h22, h23, h24, h25, h26, h27, gR, gM, gP, gV, gO⟩ := HI.out
          exact hK'.out _ _ ⟨⟨b0, b1, b2, b3, b4, b5, b6, b7, b8, b9, b10, b11, true, b13, b14, b15, b16, b17, b18, b19, b20, b21, b22, b23, b24, b25, b26, b27, s234, s235, s236, s237, s238, s239, s240, s241, s242, s243, s244, _, _, s247, s248, s249, s250, s251, s252, s253, s254, s255, s256, s257, s258, s259, s260, s14⟩, rfl, rfl, h0, h1, h2, h3, h4, h5, h6, h7, h8, h9, h10, h11, (fun _ => rfl), h13, h14, h15, h16, h17, h18, h19, h20, h21, h22, h23, h24, h25, h26, h27, gR, gM, gP, gV, gO⟩
        · have hn13 : b13 = false := by revert hp; cases b13 <;> simp
          have e12 : b12 = true := by revert hp; cases b12 <;> simp
          have e11 : b11 = true := by revert hp; cases b11 <;> simp
          clear hp
          obtain rfl := (HI.out.2.2.2.2.2.2.2.2.2.2.2.2.1) e12
          obtain rfl := (HI.out.2.2.2.2.2.2.2.2.2.2.2.1) e11
          subst hn13
          refine inv_op (o := ⟨some 247, _, _, _, _, _⟩) rfl (fun K' hK' => ?_)
          have gR := HI.out.2.2.2.2.2.2.2.2.2.2.2.2.2.2.2.2.2.2.2.2.2.2.2.2.2.2.2.2.1
          obtain ⟨hc1, hc2⟩ := one_cell gR
          go_simp
          obtain ⟨h0, h1, h2, h3, h4, h5, h6, h7, h8, h9, h10, h11, h12, h13, h14, h15, h16, h17, h18, h19, h20, h21, h22, h23, h24, h25, h26, h27, gR, gM, gP, gV, gO⟩ := HI.out
          exact hK'.out _ _ ⟨⟨b0, b1, b2, b3, b4, b5, b6, b7, b8, b9, b10, b11, b12, true, b14, b15, b16, b17, b18, b19, b20, b21, b22, b23, b24, b25, b26, b27, s234, s235, s236, s237, s238, s239, s240, s241, s242, s243, s244, _, _, _, s248, s249, s250, s251, s252, s253, s254, s255, s256, s257, s258, s259, s260, s14⟩, rfl, rfl, h0, h1, h2, h3, h4, h5, h6, h7, h8, h9, h10, h11, h12, (fun _ => rfl), h14, h15, h16, h17, h18, h19, h20, h21, h22, h23, h24, h25, h26, h27, gR, gM, gP, gV, gO⟩
        · have hn14 : b14 = false := by revert hp; cases b14 <;> simp
          have e11 : b11 = true := by revert hp; cases b11 <;> simp
          clear hp
          obtain rfl := (HI.out.2.2.2.2.2.2.2.2.2.2.2.1) e11
          subst hn14
          refine inv_op (o := ⟨some 248, _, _, _, _, _⟩) rfl (fun K' hK' => ?_)
          go_simp
          obtain ⟨h0, h1, h2, h3, h4, h5, h6, h7, h8, h9, h10, h11, h12, h13, h14, h15, h16, h17, h18, h19, h20, h21, h22, h23, h24, h25, h26, h27, gR, gM, gP, gV, gO⟩ := HI.out
          exact hK'.out _ _ ⟨⟨b0, b1, b2, b3, b4, b5, b6, b7, b8, b9, b10, b11, b12, b13, true, b15, b16, b17, b18, b19, b20, b21, b22, b23, b24, b25, b26, b27, s234, s235, s236, s237, s238, s239, s240, s241, s242, s243, s244, _, s246, s247, _, s249, s250, s251, s252, s253, s254, s255, s256, s257, s258, s259, s260, s14⟩, rfl, rfl, h0, h1, h2, h3, h4, h5, h6, h7, h8, h9, h10, h11, h12, h13, (fun _ => rfl), h15, h16, h17, h18, h19, h20, h21, h22, h23, h24, h25, h26, h27, gR, gM, gP, gV, gO⟩
        · have hn15 : b15 = false := by revert hp; cases b15 <;> simp
          have e13 : b13 = true := by revert hp; cases b13 <;> simp
          have e14 : b14 = true := by revert hp; cases b14 <;> simp
          have e11 : b11 = true := by revert hp; cases b11 <;> simp
          clear hp
          obtain rfl := (HI.out.2.2.2.2.2.2.2.2.2.2.2.2.2.1) e13
          obtain rfl := (HI.out.2.2.2.2.2.2.2.2.2.2.2.2.2.2.1) e14
          obtain rfl := (HI.out.2.2.2.2.2.2.2.2.2.2.2.1) e11
          subst hn15
          refine inv_op (o := ⟨some 249, _, _, _, _, _⟩) rfl (fun K' hK' => ?_)
          have hsl := Spd.out
          go_simp
          obtain ⟨h0, h1, h2, h3, h4, h5, h6, h7, h8, h9, h10, h11, h12, h13, h14, h15, h16, h17, h18, h19, h20, h21, h22, h23, h24, h25, h26, h27, gR, gM, gP, gV, gO⟩ := HI.out
          exact hK'.out _ _ ⟨⟨b0, b1, b2, b3, b4, b5, b6, b7, b8, b9, b10, b11, b12, b13, b14, true, b16, b17, b18, b19, b20, b21, b22, b23, b24, b25, b26, b27, s234, s235, s236, s237, s238, s239, s240, s241, s242, s243, s244, _, s246, _, _, _, s250, s251, s252, s253, s254, s255, s256, s257, s258, s259, s260, s14⟩, rfl, rfl, h0, h1, h2, h3, h4, h5, h6, h7, h8, h9, h10, h11, h12, h13, h14, (fun _ => rfl), h16, h17, h18, h19, h20, h21, h22, h23, h24, h25, h26, h27, gR, gM, gP, gV, gO⟩
        · have hn16 : b16 = false := by revert hp; cases b16 <;> simp
          have e15 : b15 = true := by revert hp; cases b15 <;> simp
          have e11 : b11 = true := by revert hp; cases b11 <;> simp
          clear hp
          obtain rfl := (HI.out.2.2.2.2.2.2.2.2.2.2.2.2.2.2.2.1) e15
          obtain rfl := (HI.out.2.2.2.2.2.2.2.2.2.2.2.1) e11
          subst hn16
          refine inv_op (o := ⟨some 250, _, _, _, _, _⟩) rfl (fun K' hK' => ?_)
          have gP := HI.out.2.2.2.2.2.2.2.2.2.2.2.2.2.2.2.2.2.2.2.2.2.2.2.2.2.2.2.2.2.2.1
          have hcv := Cpd.out W gP
          go_simp
          obtain ⟨h0, h1, h2, h3, h4, h5, h6, h7, h8, h9, h10, h11, h12, h13, h14, h15, h16, h17, h18, h19, h20, h21, h22, h23, h24, h25, h26, h27, gR, gM, gP, gV, gO⟩ := HI.out
          exact hK'.out _ _ ⟨⟨b0, b1, b2, b3, b4, b5, b6, b7, b8, b9, b10, b11, b12, b13, b14, b15, true, b17, b18, b19, b20, b21, b22, b23, b24, b25, b26, b27, s234, s235, s236, s237, s238, s239, s240, s241, s242, s243, s244, _, s246, s247, s248, _, _, s251, s252, s253, s254, s255, s256, s257, s258, s259, s260, s14⟩, rfl, rfl, h0, h1, h2, h3, h4, h5, h6, h7, h8, h9, h10, h11, h12, h13, h14, h15, (fun _ => rfl), h17, h18, h19, h20, h21, h22, h23, h24, h25, h26, h27, gR, gM, gP, gV, gO⟩
        · have hn17 : b17 = false := by revert hp; cases b17 <;> simp
          have e11 : b11 = true := by revert hp; cases b11 <;> simp
          clear hp
          obtain rfl := (HI.out.2.2.2.2.2.2.2.2.2.2.2.1) e11
          subst hn17
          refine inv_op (o := ⟨some 251, _, _, _, _, _⟩) rfl (fun K' hK' => ?_)
          go_simp
          obtain ⟨h0, h1, h2, h3, h4, h5, h6, h7, h8, h9, h10, h11, h12, h13, h14, h15, h16, h17, h18, h19, h20, h21, h22, h23, h24, h25, h26, h27, gR, gM, gP, gV, gO⟩ := HI.out
          exact hK'.out _ _ ⟨⟨b0, b1, b2, b3, b4, b5, b6, b7, b8, b9, b10, b11, b12, b13, b14, b15, b16, true, b18, b19, b20, b21, b22, b23, b24, b25, b26, b27, s234, s235, s236, s237, s238, s239, s240, s241, s242, s243, s244, _, s246, s247, s248, s249, s250, _, s252, s253, s254, s255, s256, s257, s258, s259, s260, s14⟩, rfl, rfl, h0, h1, h2, h3, h4, h5, h6, h7, h8, h9, h10, h11, h12, h13, h14, h15, h16, (fun _ => rfl), h18, h19, h20, h21, h22, h23, h24, h25, h26, h27, gR, gM, gP, gV, gO⟩
        · have hn18 : b18 = false := by revert hp; cases b18 <;> simp
          have e17 : b17 = true := by revert hp; cases b17 <;> simp
          have e11 : b11 = true := by revert hp; cases b11 <;> simp
          clear hp
          obtain rfl := (HI.out.2.2.2.2.2.2.2.2.2.2.2.2.2.2.2.2.2.1) e17
          obtain rfl := (HI.out.2.2.2.2.2.2.2.2.2.2.2.1) e11
          subst hn18
          refine inv_op (o := ⟨some 252, _, _, _, _, _⟩) rfl (fun K' hK' => ?_)
          have gM := HI.out.2.2.2.2.2.2.2.2.2.2.2.2.2.2.2.2.2.2.2.2.2.2.2.2.2.2.2.2.2.1
          obtain ⟨hc1, hc2⟩ := one_cell gM
          go_simp
          obtain ⟨h0, h1, h2, h3, h4, h5, h6, h7, h8, h9, h10, h11, h12, h13, h14, h15, h16, h17, h18, h19, h20, h21, h22, h23, h24, h25, h26, h27, gR, gM, gP, gV, gO⟩ := HI.out
          exact hK'.out _ _ ⟨⟨b0, b1, b2, b3, b4, b5, b6, b7, b8, b9, b10, b11, b12, b13, b14, b15, b16, b17, true, b19, b20, b21, b22, b23, b24, b25, b26, b27, s234, s235, s236, s237, s238, s239, s240, s241, s242, s243, s244, _, s246, s247, s248, s249, s250, _, _, s253, s254, s255, s256, s257, s258, s259, s260, s14⟩, rfl, rfl, h0, h1, h2, h3, h4, h5, h6, h7, h8, h9, h10, h11, h12, h13, h14, h15, h16, h17, (fun _ => rfl), h19, h20, h21, h22, h23, h24, h25, h26, h27, gR, gM, gP, gV, gO⟩
        · have hn19 : b19 = false := by revert hp; cases b19 <;> simp
          have e11 : b11 = true := by revert hp; cases b11 <;> simp
          clear hp
          obtain rfl := (HI.out.2.2.2.2.2.2.2.2.2.2.2.1) e11
          subst hn19
          refine inv_op (o := ⟨some 253, _, _, _, _, _⟩) rfl (fun K' hK' => ?_)
          go_simp
          obtain ⟨h0, h1, h2, h3, h4, h5, h6, h7, h8, h9, h10, h11, h12, h13, h14, h15, h16, h17, h18, h19, h20, h21, h22, h23, h24, h25, h26, h27, gR, gM, gP, gV, gO⟩ := HI.out
          exact hK'.out _ _ ⟨⟨b0, b1, b2, b3, b4, b5, b6, b7, b8, b9, b10, b11, b12, b13, b14, b15, b16, b17, b18, true, b20, b21, b22, b23, b24, b25, b26, b27, s234, s235, s236, s237, s238, s239, s240, s241, s242, s243, s244, _, s246, s247, s248, s249, s250, s251, s252, _, s254, s255, s256, s257, s258, s259, s260, s14⟩, rfl, rfl, h0, h1, h2, h3, h4, h5, h6, h7, h8, h9, h10, h11, h12, h13, h14, h15, h16, h17, h18, (fun _ => rfl), h20, h21, h22, h23, h24, h25, h26, h27, gR, gM, gP, gV, gO⟩
        · have hn20 : b20 = false := by revert hp; cases b20 <;> simp
          have e18 : b18 = true := by revert hp; cases b18 <;> simp
          have e19 : b19 = true := by revert hp; cases b19 <;> simp
          have e11 : b11 = true := by revert hp; cases b11 <;> simp
          clear hp
          obtain rfl := (HI.out.2.2.2.2.2.2.2.2.2.2.2.2.2.2.2.2.2.2.1) e18
          obtain rfl := (HI.out.2.2.2.2.2.2.2.2.2.2.2.2.2.2.2.2.2.2.2.1) e19
          obtain rfl := (HI.out.2.2.2.2.2.2.2.2.2.2.2.1) e11
          subst hn20
          refine inv_op (o := ⟨some 254, _, _, _, _, _⟩) rfl (fun K' hK' => ?_)
          have hsl := Smd.out
          go_simp
          obtain ⟨h0, h1, h2, h3, h4, h5, h6, h7, h8, h9, h10, h11, h12, h13, h14, h15, h16, h17, h18, h19, h20, h21, h22, h23, h24, h25, h26, h27, gR, gM, gP, gV, gO⟩ := HI.out
          exact hK'.out _ _ ⟨⟨b0, b1, b2, b3, b4, b5, b6, b7, b8, b9, b10, b11, b12, b13, b14, b15, b16, b17, b18, b19, true, b21, b22, b23, b24, b25, b26, b27, s234, s235, s236, s237, s238, s239, s240, s241, s242, s243, s244, _, s246, s247, s248, s249, s250, s251, _, _, _, s255, s256, s257, s258, s259, s260, s14⟩, rfl, rfl, h0, h1, h2, h3, h4, h5, h6, h7, h8, h9, h10, h11, h12, h13, h14, h15, h16, h17, h18, h19, (fun _ => rfl), h21, h22, h23, h24, h25, h26, h27, gR, gM, gP, gV, gO⟩
        · have hn21 : b21 = false := by revert hp; cases b21 <;> simp
          have e20 : b20 = true := by revert hp; cases b20 <;> simp
          have e11 : b11 = true := by revert hp; cases b11 <;> simp
          clear hp
          obtain rfl := (HI.out.2.2.2.2.2.2.2.2.2.2.2.2.2.2.2.2.2.2.2.2.1) e20
          obtain rfl := (HI.out.2.2.2.2.2.2.2.2.2.2.2.1) e11
          subst hn21
          refine inv_op (o := ⟨some 255, _, _, _, _, _⟩) rfl (fun K' hK' => ?_)
          have gV := HI.out.2.2.2.2.2.2.2.2.2.2.2.2.2.2.2.2.2.2.2.2.2.2.2.2.2.2.2.2.2.2.2.1
          have hcv := Cmd.out W gV
          go_simp
          obtain ⟨h0, h1, h2, h3, h4, h5, h6, h7, h8, h9, h10, h11, h12, h13, h14, h15, h16, h17, h18, h19, h20, h21, h22, h23, h24, h25, h26, h27, gR, gM, gP, gV, gO⟩ := HI.out
          exact hK'.out _ _ ⟨⟨b0, b1, b2, b3, b4, b5, b6, b7, b8, b9, b10, b11, b12, b13, b14, b15, b16, b17, b18, b19, b20, true, b22, b23, b24, b25, b26, b27, s234, s235, s236, s237, s238, s239, s240, s241, s242, s243, s244, _, s246, s247, s248, s249, s250, s251, s252, s253, _, _, s256, s257, s258, s259, s260, s14⟩, rfl, rfl, h0, h1, h2, h3, h4, h5, h6, h7, h8, h9, h10, h11, h12, h13, h14, h15, h16, h17, h18, h19, h20, (fun _ => rfl), h22, h23, h24, h25, h26, h27, gR, gM, gP, gV, gO⟩
        · have hn22 : b22 = false := by revert hp; cases b22 <;> simp
          have e16 : b16 = true := by revert hp; cases b16 <;> simp
          have e21 : b21 = true := by revert hp; cases b21 <;> simp
          have e11 : b11 = true := by revert hp; cases b11 <;> simp
          clear hp
          obtain rfl := (HI.out.2.2.2.2.2.2.2.2.2.2.2.2.2.2.2.2.1) e16
          obtain rfl := (HI.out.2.2.2.2.2.2.2.2.2.2.2.2.2.2.2.2.2.2.2.2.2.1) e21
          obtain rfl := (HI.out.2.2.2.2.2.2.2.2.2.2.2.1) e11
          subst hn22
          refine inv_op (o := ⟨some 256, _, _, _, _, _⟩) rfl (fun K' hK' => ?_)
          have hes := eql_self str2
          go_simp
          obtain ⟨h0, h1, h2, h3, h4, h5, h6, h7, h8, h9, h10, h11, h12, h13, h14, h15, h16, h17, h18, h19, h20, h21, h22, h23, h24, h25, h26, h27, gR, gM, gP, gV, gO⟩ := HI.out
          exact hK'.out _ _ ⟨⟨b0, b1, b2, b3, b4, b5, b6, b7, b8, b9, b10, b11, b12, b13, b14, b15, b16, b17, b18, b19, b20, b21, true, b23, b24, b25, b26, b27, s234, s235, s236, s237, s238, s239, s240, s241, s242, s243, s244, _, s246, s247, s248, s249, _, s251, s252, s253, s254, _, _, s257, s258, s259, s260, s14⟩, rfl, rfl, h0, h1, h2, h3, h4, h5, h6, h7, h8, h9, h10, h11, h12, h13, h14, h15, h16, h17, h18, h19, h20, h21, (fun _ => rfl), h23, h24, h25, h26, h27, gR, gM, gP, gV, gO⟩
        · have hn23 : b23 = false := by revert hp; cases b23 <;> simp
          have e11 : b11 = true := by revert hp; cases b11 <;> simp
          have e22 : b22 = true := by revert hp; cases b22 <;> simp
          clear hp
          obtain rfl := (HI.out.2.2.2.2.2.2.2.2.2.2.2.1) e11
          obtain rfl := (HI.out.2.2.2.2.2.2.2.2.2.2.2.2.2.2.2.2.2.2.2.2.2.2.1) e22
          subst hn23
          refine inv_op (o := ⟨some 257, _, _, _, _, _⟩) rfl (fun K' hK' => ?_)
          go_simp
          obtain ⟨h0, h1, h2, h3, h4, h5, h6, h7, h8, h9, h10, h11, h12, h13, h14, h15, h16, h17, h18, h19, h20, h21, h22, h23, h24, h25, h26, h27, gR, gM, gP, gV, gO⟩ := HI.out
          exact hK'.out _ _ ⟨⟨b0, b1, b2, b3, b4, b5, b6, b7, b8, b9, b10, b11, b12, b13, b14, b15, b16, b17, b18, b19, b20, b21, b22, true, b24, b25, b26, b27, s234, s235, s236, s237, s238, s239, s240, s241, s242, s243, s244, _, s246, s247, s248, s249, s250, s251, s252, s253, s254, s255, _, _, s258, s259, s260, s14⟩, rfl, rfl, h0, h1, h2, h3, h4, h5, h6, h7, h8, h9, h10, h11, h12, h13, h14, h15, h16, h17, h18, h19, h20, h21, h22, (fun _ => rfl), h24, h25, h26, h27, gR, gM, gP, gV, gO⟩
        · have hn24 : b24 = false := by revert hp; cases b24 <;> simp
          have e23 : b23 = true := by revert hp; cases b23 <;> simp
          clear hp
          obtain rfl := (HI.out.2.2.2.2.2.2.2.2.2.2.2.2.2.2.2.2.2.2.2.2.2.2.2.1) e23
          subst hn24
          refine inv_op (o := ⟨some 258, _, _, _, _, _⟩) rfl (fun K' hK' => ?_)
          go_simp
          obtain ⟨h0, h1, h2, h3, h4, h5, h6, h7, h8, h9, h10, h11, h12, h13, h14, h15, h16, h17, h18, h19, h20, h21, h22, h23, h24, h25, h26, h27, gR, gM, gP, gV, gO⟩ := HI.out
          exact hK'.out _ _ ⟨⟨b0, b1, b2, b3, b4, b5, b6, b7, b8, b9, b10, b11, b12, b13, b14, b15, b16, b17, b18, b19, b20, b21, b22, b23, true, b25, b26, b27, s234, s235, s236, s237, s238, s239, s240, s241, s242, s243, s244, s245, s246, s247, s248, s249, s250, s251, s252, s253, s254, s255, s256, _, _, s259, s260, s14⟩, rfl, rfl, h0, h1, h2, h3, h4, h5, h6, h7, h8, h9, h10, h11, h12, h13, h14, h15, h16, h17, h18, h19, h20, h21, h22, h23, (fun _ => rfl), h25, h26, h27, gR, gM, gP, gV, gO⟩
        · have hn25 : b25 = false := by revert hp; cases b25 <;> simp
          have e24 : b24 = true := by revert hp; cases b24 <;> simp
          clear hp
          obtain rfl := (HI.out.2.2.2.2.2.2.2.2.2.2.2.2.2.2.2.2.2.2.2.2.2.2.2.2.1) e24
          subst hn25
          refine inv_op (o := ⟨some 259, _, _, _, _, _⟩) rfl (fun K' hK' => ?_)
          go_simp
          refine (heads_any W).mono ?_
          rintro e w9 ⟨rfl, bn⟩
          obtain ⟨h0, h1, h2, h3, h4, h5, h6, h7, h8, h9, h10, h11, h12, h13, h14, h15, h16, h17, h18, h19, h20, h21, h22, h23, h24, h25, h26, h27, gR, gM, gP, gV, gO⟩ := HI.out
          exact hK'.out _ _ ⟨⟨b0, b1, b2, b3, b4, b5, b6, b7, b8, b9, b10, b11, b12, b13, b14, b15, b16, b17, b18, b19, b20, b21, b22, b23, b24, true, b26, b27, s234, s235, s236, s237, s238, s239, s240, s241, s242, s243, s244, s245, s246, s247, s248, s249, s250, s251, s252, s253, s254, s255, s256, s257, _, _, s260, s14⟩, rfl, rfl, h0, h1, h2, h3, h4, h5, h6, h7, h8, h9, h10, h11, h12, h13, h14, h15, h16, h17, h18, h19, h20, h21, h22, h23, h24, (fun _ => rfl), h26, h27, (row_keep gR bn), (row_keep gM bn), (gP.below bn), (gV.below bn), (gO.trans (bn.mono gO.size))⟩
        · have hn26 : b26 = false := by revert hp; cases b26 <;> simp
          have e24 : b24 = true := by revert hp; cases b24 <;> simp
          have e25 : b25 = true := by revert hp; cases b25 <;> simp
          clear hp
          obtain rfl := (HI.out.2.2.2.2.2.2.2.2.2.2.2.2.2.2.2.2.2.2.2.2.2.2.2.2.1) e24
          obtain rfl := (HI.out.2.2.2.2.2.2.2.2.2.2.2.2.2.2.2.2.2.2.2.2.2.2.2.2.2.1) e25
          subst hn26
          refine inv_op (o := ⟨some 260, _, _, _, _, _⟩) rfl (fun K' hK' => ?_)
          go_simp
          obtain ⟨h0, h1, h2, h3, h4, h5, h6, h7, h8, h9, h10, h11, h12, h13, h14, h15, h16, h17, h18, h19, h20, h21, h22, h23, h24, h25, h26, h27, gR, gM, gP, gV, gO⟩ := HI.out
          exact hK'.out _ _ ⟨⟨b0, b1, b2, b3, b4, b5, b6, b7, b8, b9, b10, b11, b12, b13, b14, b15, b16, b17, b18, b19, b20, b21, b22, b23, b24, b25, true, b27, s234, s235, s236, s237, s238, s239, s240, s241, s242, s243, s244, s245, s246, s247, s248, s249, s250, s251, s252, s253, s254, s255, s256, s257, _, _, _, s14⟩, rfl, rfl, h0, h1, h2, h3, h4, h5, h6, h7, h8, h9, h10, h11, h12, h13, h14, h15, h16, h17, h18, h19, h20, h21, h22, h23, h24, h25, (fun _ => rfl), h27, gR, gM, gP, gV, gO⟩
        · have hn27 : b27 = false := by revert hp; cases b27 <;> simp
          have e26 : b26 = true := by revert hp; cases b26 <;> simp
          clear hp
          obtain rfl := (HI.out.2.2.2.2.2.2.2.2.2.2.2.2.2.2.2.2.2.2.2.2.2.2.2.2.2.2.1) e26
          subst hn27
          refine inv_op (o := ⟨some 14, _, _, _, _, _⟩) rfl (fun K' hK' => ?_)
          go_simp
          obtain ⟨h0, h1, h2, h3, h4, h5, h6, h7, h8, h9, h10, h11, h12, h13, h14, h15, h16, h17, h18, h19, h20, h21, h22, h23, h24, h25, h26, h27, gR, gM, gP, gV, gO⟩ := HI.out
          exact hK'.out _ _ ⟨⟨b0, b1, b2, b3, b4, b5, b6, b7, b8, b9, b10, b11, b12, b13, b14, b15, b16, b17, b18, b19, b20, b21, b22, b23, b24, b25, b26, true, s234, s235, s236, s237, s238, s239, s240, s241, s242, s243, s244, s245, s246, s247, s248, s249, s250, s251, s252, s253, s254, s255, s256, s257, s258, s259, _, _⟩, rfl, rfl, h0, h1, h2, h3, h4, h5, h6, h7, h8, h9, h10, h11, h12, h13, h14, h15, h16, h17, h18, h19, h20, h21, h22, h23, h24, h25, h26, (fun _ => rfl), gR, gM, gP, gV, gO⟩
      case hdone =>
        rintro ⟨b0, b1, b2, b3, b4, b5, b6, b7, b8, b9, b10, b11, b12, b13, b14, b15, b16, b17, b18, b19, b20, b21, b22, b23, b24, b25, b26, b27, s234, s235, s236, s237, s238, s239, s240, s241, s242, s243, s244, s245, s246, s247, s248, s249, s250, s251, s252, s253, s254, s255, s256, s257, s258, s259, s260, s14⟩ W hI hall
        dsimp only at hI hall ⊢
        have HI := Lib.hid hI
        clear hI
        obtain rfl : b0 = true := hall 0 (by decide)
        obtain rfl : b1 = true := hall 1 (by decide)
        obtain rfl : b2 = true := hall 2 (by decide)
        obtain rfl : b3 = true := hall 3 (by decide)
        obtain rfl : b4 = true := hall 4 (by decide)
        obtain rfl : b5 = true := hall 5 (by decide)
        obtain rfl : b6 = true := hall 6 (by decide)
        obtain rfl : b7 = true := hall 7 (by decide)
        obtain rfl : b8 = true := hall 8 (by decide)
        obtain rfl : b9 = true := hall 9 (by decide)
        obtain rfl : b10 = true := hall 10 (by decide)
        obtain rfl : b11 = true := hall 11 (by decide)
        obtain rfl : b12 = true := hall 12 (by decide)
        obtain rfl : b13 = true := hall 13 (by decide)
        obtain rfl : b14 = true := hall 14 (by decide)
        obtain rfl : b15 = true := hall 15 (by decide)
        obtain rfl : b16 = true := hall 16 (by decide)
        obtain rfl : b17 = true := hall 17 (by decide)
        obtain rfl : b18 = true := hall 18 (by decide)
        obtain rfl : b19 = true := hall 19 (by decide)
        obtain rfl : b20 = true := hall 20 (by decide)
        obtain rfl : b21 = true := hall 21 (by decide)
        obtain rfl : b22 = true := hall 22 (by decide)
        obtain rfl : b23 = true := hall 23 (by decide)
        obtain rfl : b24 = true := hall 24 (by decide)
        obtain rfl : b25 = true := hall 25 (by decide)
        obtain rfl : b26 = true := hall 26 (by decide)
        obtain rfl : b27 = true := hall 27 (by decide)
        obtain rfl := (HI.out.2.2.2.2.2.2.2.2.2.2.2.2.2.2.2.2.2.2.2.2.2.2.2.2.2.2.2.1) rfl
        have gO := HI.out.2.2.2.2.2.2.2.2.2.2.2.2.2.2.2.2.2.2.2.2.2.2.2.2.2.2.2.2.2.2.2.2
        clear HI hall
        have HO := Lib.hid gO
        clear gO
        go_wp2
        go_ret
        exact ⟨rfl, HO.out⟩

theorem ringKeeps_law (w : World) (v : Value) (l : List UInt8) (hv : IsArg w v l) (b : Int) (_ : -9223372036854775808 ≤ b ∧ b ≤ 9223372036854775807) (z : Int) (_ : -9223372036854775808 ≤ z ∧ z ≤ 9223372036854775807) (i : Int) (_ : -9223372036854775808 ≤ i ∧ i ≤ 9223372036854775807) (da : Nat) (hda : da < 18446744073709551616) (dn : Nat) (hdn : dn < 4294967296) (df : Nat) (hdf : df < 65536) (dx : Nat) (hdx : dx < 65536) (k : Nat) (hk : k < 65536) (u0 : Nat) (hu0 : u0 < 4294967296) (u1 : Nat) (hu1 : u1 < 4294967296) :
    Calls Try.prog 5 #[.agg #[v], .int .i64 b, .int .i64 z, .int .i64 i, .agg #[.int .u64 (da : Nat), .int .u32 (dn : Nat), .int .u16 (df : Nat), .int .u16 (dx : Nat)], .int .u16 (k : Nat), .agg #[.int .u32 (u0 : Nat), .int .u32 (u1 : Nat)]] w fun e w' => e = .returned (.bool true) ∧ Below w.heap.size w w' := by
  by_cases h : l.length ≤ 3000
  · cases hc : okR l.length b z with
    | false => exact ringKeeps_out w v l hv b z i da dn df dx k u0 u1 (.inr (.inl ⟨h, hc⟩))
    | true =>
      by_cases h0 : i < 0
      · exact ringKeeps_out w v l hv b z i da dn df dx k u0 u1 (.inr (.inr (.inl ⟨h, hc, h0⟩)))
      · by_cases h1 : z ≤ i
        · exact ringKeeps_out w v l hv b z i da dn df dx k u0 u1 (.inr (.inr (.inr ⟨h, hc, by omega, h1⟩)))
        · obtain ⟨B, N, rfl, rfl, hok⟩ := ok_of hc
          obtain ⟨I, rfl⟩ := Int.eq_ofNat_of_zero_le (show 0 ≤ i by omega)
          exact ringKeeps_in w v l hv B N I hok (by omega) da hda dn hdn df hdf dx hdx k hk u0 hu0 u1 hu1 h
  · exact ringKeeps_out w v l hv b z i da dn df dx k u0 u1 (.inl h)
end Go.Proofs.Ytofeiheomnpggaa
