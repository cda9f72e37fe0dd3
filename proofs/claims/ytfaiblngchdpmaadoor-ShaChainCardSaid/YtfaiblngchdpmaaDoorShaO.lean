/- What Of answers, for every bytes of at most 100000, where the two tables hold what is laid. -/
import Derived.Test.YtfaiblngchdpmaaDoorShaU
import Derived.Test.YtfaiblngchdpmaaDoorShaP
import Derived.Test.YtfaiblngchdpmaaDoorShaC
namespace Go.Proofs.YtfaiblngchdpmaaDoor
open Go.RowKit Go.Shelf Go.Lib
attribute [local go_sem] Oper.semAt_some

theorem info32 : (Tryd.prog.info? 33).map (·.size) = some 32 := by kernel_rfl
theorem und32 : Tryd.prog.underlying 33 = some (.array 32 5) := by kernel_rfl
def zero32 : Array Value := (zeros 32).toArray
theorem zero32_lit : zero32 = #[.int .u8 0, .int .u8 0, .int .u8 0, .int .u8 0, .int .u8 0, .int .u8 0, .int .u8 0, .int .u8 0, .int .u8 0, .int .u8 0, .int .u8 0, .int .u8 0, .int .u8 0, .int .u8 0, .int .u8 0, .int .u8 0, .int .u8 0, .int .u8 0, .int .u8 0, .int .u8 0, .int .u8 0, .int .u8 0, .int .u8 0, .int .u8 0, .int .u8 0, .int .u8 0, .int .u8 0, .int .u8 0, .int .u8 0, .int .u8 0, .int .u8 0, .int .u8 0] := by kernel_rfl
theorem info8x32h : (Tryd.prog.info? 23).map (·.size) = some (u32s hTab).toArray.size := by kernel_rfl
/-- The state when these pieces have come. -/
def after (S : List UInt8) {m : Nat} (pre : List (Fin m)) : List Nat := (pre.map (·.val)).foldl (fun h j => turnOf h ((S.drop (64 * j)).take 64)) hTab
theorem after_snoc (S : List UInt8) {m : Nat} (pre : List (Fin m)) (x : Fin m) : after S (pre ++ [x]) = turnOf (after S pre) ((S.drop (64 * x.val)).take 64) := by simp [after]
theorem after_first (S : List UInt8) {m k : Nat} {pre : List (Fin m)} (h : firstK m k pre) : after S pre = blocksTo S k := by
  unfold after
  rw [h]
  clear h
  induction k with
  | zero => rfl
  | succ k ih => rw [List.range_succ, List.foldl_append, ih]; rfl
theorem after_length (S : List UInt8) {m : Nat} (pre : List (Fin m)) : (after S pre).length = 8 := by
  unfold after
  generalize pre.map (·.val) = r
  have h : ∀ (r : List Nat) (h0 : List Nat), h0.length = 8 → (r.foldl (fun h j => turnOf h ((S.drop (64 * j)).take 64)) h0).length = 8 := by
    intro r
    induction r with
    | nil => intro h0 h; exact h
    | cons j r ih => intro h0 h; exact ih _ (turnOf_length _ _ h)
  exact h r _ rfl
theorem turnOf_32 (h : List Nat) (b : List UInt8) (hh : All32 h) : All32 (turnOf h b) := by
  unfold turnOf
  split
  · intro x hx
    unfold addAll at hx
    rw [List.mem_iff_getElem?] at hx
    obtain ⟨i, hi⟩ := hx
    rw [List.getElem?_zipWith] at hi
    rcases h1 : (roundsTo h (wTo b 64) 64)[i]? with _ | u
    · rw [h1] at hi; cases hi
    · rcases h2 : h[i]? with _ | v
      · rw [h1, h2] at hi; cases hi
      · rw [h1, h2] at hi
        cases hi
        exact Nat.mod_lt _ (by decide)
  · exact hh
theorem hTab_32 : All32 hTab := by unfold All32; decide +kernel
theorem after_32 (S : List UInt8) {m : Nat} (pre : List (Fin m)) : All32 (after S pre) := by
  unfold after
  generalize pre.map (·.val) = r
  have h : ∀ (r : List Nat) (h0 : List Nat), All32 h0 → All32 (r.foldl (fun h j => turnOf h ((S.drop (64 * j)).take 64)) h0) := by
    intro r
    induction r with
    | nil => intro h0 h; exact h
    | cons j r ih => intro h0 h; exact ih _ (turnOf_32 _ _ h)
  exact h r _ hTab_32
theorem eight_of {l : List Nat} (h : l.length = 8) : ∃ a b c d e f g i, l = [a, b, c, d, e, f, g, i] := by
  match l, h with
  | [a, b, c, d, e, f, g, i], _ => exact ⟨a, b, c, d, e, f, g, i, rfl⟩
theorem piece_bytes {w : World} {g M : Nat} {cur : Array Value} {S : List UInt8} {t : TypeId} (h : w.heap[g]? = some (.cells cur t (0, 0))) (ht : cur.toList.take M = byteCells S) (hS : S.length = M) (off n : Nat) (ho : off + n ≤ M) (hm : n ≤ 1000000 := by decide) :
    IsBytes w (.slice (some ⟨g, off, none⟩) n n) ((S.drop off).take n) := by
  have hl : ((S.drop off).take n).length = n := by simp; omega
  refine .inr ⟨g, off, n, by rw [hl], by omega, by unfold maxLen; omega, (Array.getElem?_eq_some_iff.1 h).1, fun i hi => ?_⟩
  rw [hl] at hi
  have h1 : (cur.toList.take M)[off + i]? = some (.int .u8 (S.getD (off + i) 0).toNat) := by
    rw [ht]
    have : off + i < S.length := by omega
    simp [byteCells, this]
  rw [List.getElem?_take, if_pos (by omega)] at h1
  rw [cell_of_row w g (off + i) cur t (0, 0) h]
  have h2 : cur[off + i]? = some (.int .u8 (S.getD (off + i) 0).toNat) := by simpa using h1
  rw [h2]
  simp [List.getElem?_drop, hi]
theorem eight_end {w : World} {g : Nat} {t : TypeId} {o0 o1 o2 o3 o4 o5 o6 o7 a b c d e f g' i : Value} (h : w.heap[g]? = some (.cells #[o0, o1, o2, o3, o4, o5, o6, o7] t (0, 0))) {P : World → Prop}
    (hP : ∀ Z : World, Z.heap[g]? = some (.cells #[a, b, c, d, e, f, g', i] t (0, 0)) → (∀ k, k ≠ g → Z.heap[k]? = w.heap[k]?) → Z.heap.size = w.heap.size → (∀ B w0, Below B w0 w → B ≤ g → Below B w0 Z) → P Z) :
    P ((((((((w.setCell ⟨g, 0, none⟩ a).setCell ⟨g, 1, none⟩ b).setCell ⟨g, 2, none⟩ c).setCell ⟨g, 3, none⟩ d).setCell ⟨g, 4, none⟩ e).setCell ⟨g, 5, none⟩ f).setCell ⟨g, 6, none⟩ g').setCell ⟨g, 7, none⟩ i) := by
  refine hP _ (by simp [World.setCell, Array.getElem?_modify, h]) (fun k hk => ?_) (by simp [World.setCell]) (fun B w0 hb hB => eight_below hb hB _ _ _ _ _ _ _ _)
  rw [heap_setCell_other _ _ _ _ hk, heap_setCell_other _ _ _ _ hk, heap_setCell_other _ _ _ _ hk, heap_setCell_other _ _ _ _ hk, heap_setCell_other _ _ _ _ hk, heap_setCell_other _ _ _ _ hk, heap_setCell_other _ _ _ _ hk, heap_setCell_other _ _ _ _ hk]
theorem index_eight (z0 z1 z2 z3 z4 z5 z6 z7 j : Nat) (hj : j < 8) (Z : World) : (Instr.index 23 (.agg #[.int .u32 z0, .int .u32 z1, .int .u32 z2, .int .u32 z3, .int .u32 z4, .int .u32 z5, .int .u32 z6, .int .u32 z7]) (.int .i64 j)).run Tryd.prog Z = .ok (.int .u32 (([z0, z1, z2, z3, z4, z5, z6, z7].getD j 0 : Nat) : Int)) Z := by
  have h : j = 0 ∨ j = 1 ∨ j = 2 ∨ j = 3 ∨ j = 4 ∨ j = 5 ∨ j = 6 ∨ j = 7 := by omega
  rcases h with rfl | rfl | rfl | rfl | rfl | rfl | rfl | rfl
  all_goals
    show _ = _
    kernel_rfl
theorem digest_from (g j : Nat) (hj : j < 8) (Z : World) : (Instr.sliceAt 33 (.pointer (some ⟨g, 0, none⟩)) (some (.int .i64 (4 * (j : Int)))) none none).run Tryd.prog Z = .ok (.slice (some ⟨g, 4 * j, none⟩) (32 - 4 * j) (32 - 4 * j)) Z := by
  have h : j = 0 ∨ j = 1 ∨ j = 2 ∨ j = 3 ∨ j = 4 ∨ j = 5 ∨ j = 6 ∨ j = 7 := by omega
  rcases h with rfl | rfl | rfl | rfl | rfl | rfl | rfl | rfl
  all_goals
    show _ = _
    kernel_rfl
theorem size8 : (Tryd.prog.info? 5).map (·.size) = some 1 := by kernel_rfl
theorem blocksTo_32 (S : List UInt8) (m : Nat) : All32 (blocksTo S m) := by
  induction m with
  | zero => exact hTab_32
  | succ m ih => exact turnOf_32 _ _ ih
/-- The digest when j words are laid. -/
def dRow (st : List Nat) (j : Nat) : List Value := byteCells ((digestOf st).take (4 * j)) ++ zeros (32 - 4 * j)
theorem dRow_zero (st : List Nat) : (dRow st 0).toArray = zero32 := by simp [dRow, byteCells, zero32]
theorem dRow_length (st : List Nat) (j : Nat) (hs : st.length = 8) (hj : j ≤ 8) : (dRow st j).length = 32 := by
  have h := digestOf_length st hs
  simp [dRow, byteCells, zeros, h]
  omega
theorem dRow_all (st : List Nat) (hs : st.length = 8) : dRow st 8 = byteCells (digestOf st) := by
  have h := digestOf_length st hs
  unfold dRow
  rw [List.take_of_length_le (by omega)]
  simp [zeros]
theorem row_bytes {w : World} {g q : Nat} {l : List UInt8} {t : TypeId} {u : Value} (h : w.heap[g]? = some (.cells (byteCells l).toArray t (0, 0))) (hu : (byteCells l)[q]? = some u) : w.cell? ((⟨g, 0, none⟩ : Addr).add q) = some u := by
  rw [Addr.add_lit, Nat.zero_add, cell_of_row w g q _ t (0, 0) h]
  simpa using hu
theorem dRow_next (st : List Nat) (j x : Nat) (hs : st.length = 8) (hj : j < 8) (hx : x = st.getD j 0) : splice (dRow st j) (4 * j) (byteCells (beB x 4)) = dRow st (j + 1) := by
  match st, hs with
  | [a, b, c, d, e, f, g, i], _ =>
    subst hx
    have h : j = 0 ∨ j = 1 ∨ j = 2 ∨ j = 3 ∨ j = 4 ∨ j = 5 ∨ j = 6 ∨ j = 7 := by omega
    have hb : ∀ n, ∃ p q r s, beB n 4 = [p, q, r, s] := fun n => ⟨_, _, _, _, rfl⟩
    obtain ⟨a0, a1, a2, a3, ha⟩ := hb a
    obtain ⟨b0, b1, b2, b3, hb'⟩ := hb b
    obtain ⟨c0, c1, c2, c3, hc⟩ := hb c
    obtain ⟨d0, d1, d2, d3, hd⟩ := hb d
    obtain ⟨e0, e1, e2, e3, he⟩ := hb e
    obtain ⟨f0, f1, f2, f3, hf⟩ := hb f
    obtain ⟨g0, g1, g2, g3, hg⟩ := hb g
    obtain ⟨i0, i1, i2, i3, hi⟩ := hb i
    have hdg : digestOf [a, b, c, d, e, f, g, i] = [a0, a1, a2, a3, b0, b1, b2, b3, c0, c1, c2, c3, d0, d1, d2, d3, e0, e1, e2, e3, f0, f1, f2, f3, g0, g1, g2, g3, i0, i1, i2, i3] := by
      simp [digestOf, ha, hb', hc, hd, he, hf, hg, hi]
    unfold dRow splice
    rw [hdg]
    rcases h with rfl | rfl | rfl | rfl | rfl | rfl | rfl | rfl
    all_goals simp [byteCells, zeros, ha, hb', hc, hd, he, hf, hg, hi]
/-- What is said of a block of cells is the caller's own. -/
theorem own_block {β : Type} {B k : Nat} (f : β → Array Value) (t : TypeId) (fr : Nat × Nat) : OwnFrom B (fun (s : β) (W : World) => W.heap[k]? = some (.cells (f s) t fr)) := fun s W W' row hs hg hr => by
  refine (hg.block k (Array.getElem?_eq_some_iff.1 hs).1 (fun e => ?_)).trans hs
  obtain ⟨_, o, ho, hc⟩ := hr k e.symm
  rw [hs] at ho
  cases ho
  cases hc
set_option maxRecDepth 100000 in
set_option maxHeartbeats 4000000 in
theorem of_any (v : Value) (l : List UInt8) (hl : l.length ≤ 100000) (w : World) (hv : IsArg w v l) (hL : Laid w) :
    Calls Tryd.prog 15 #[v] w fun e w' => e = .returned (.agg (byteCells (shaOf l)).toArray) ∧ Below w.heap.size w w' := by
  obtain ⟨a, c, hsh⟩ := hv.1.shape
  have HV := Lib.hid hv
  have HLd := Lib.hid hL
  clear hv
  rw [hsh] at HV
  subst hsh
  obtain ⟨N, hN⟩ : ∃ N, N = l.length := ⟨_, rfl⟩
  rw [← hN] at HV hl
  rw [← hN]
  have HN := Lib.hid hN
  clear hN
  obtain ⟨th, frh, hroots⟩ := hL.h
  have HRT := Lib.hid hroots
  clear hroots hL
  refine (callsIn_wide (n := 3)).1 (callsIn_of_wp_marks Tryd.func15 rfl trivial (wpIn_wide.2 ?_) rfl)
  simp only [Tryd.ntmps15, List.size_toArray, List.length_cons, List.length_nil, Nat.reduceAdd, Nat.reduceSub, Array.replicate_succ, Array.replicate_zero, List.push_toArray, List.append_toArray, List.nil_append, List.cons_append]
  go_upto_region 1 with fail
  rw [← zero32_lit]
  obtain ⟨R0, hR0⟩ : ∃ R0, R0 = (u32s hTab).toArray := ⟨_, rfl⟩
  have hR8 : (some 8 : Option Nat) = some R0.size ∧ zero8.size = R0.size ∧ R0.all (·.oneCell') = true := ⟨by rw [hR0]; rfl, by rw [hR0]; rfl, by rw [hR0]; exact u32s_one _⟩
  rw [← hR0] at HRT
  have HR0 := Lib.hid hR0
  have HR8 := Lib.hid hR8
  clear hR0 hR8
  go_wp2_with (first | (refine wpList_load_row rfl 23 _ rfl 1 rfl th R0 frh _ ?ld und8x32 rfl (info8x32.trans HR8.out.1) ?_) | (refine wpList_store_row rfl 23 _ _ rfl (w.heap.size + 1) R0 rfl rfl 23 zero8 ?st (info8x32.trans HR8.out.1) HR8.out.2.1 HR8.out.2.2 ?_))
  case ld => exact (Below.heap_alloc _ _ _ (Array.getElem?_eq_some_iff.1 HRT.out).1).trans HRT.out
  case st => exact heap_alloc2_new w _ _
  obtain ⟨B, hB⟩ : ∃ B, B = w.heap.size := ⟨_, rfl⟩
  rw [← hB]
  generalize hW1 : World.setRow _ _ _ = W1
  have hd1 : W1.heap[B]? = some (.cells zero32 33 (0, 0)) := by rw [← hW1, setRow_other _ _ _ _ (by omega), hB]; exact heap_alloc2_old w _ _
  have hh1 : W1.heap[B + 1]? = some (.cells R0 23 (0, 0)) := by rw [← hW1, hB]; exact setRow_heap _ _ _ _ _ _ (heap_alloc2_new w _ _)
  have hb1 : Below B w W1 := by rw [← hW1, hB]; exact below_setRow (((Below.refl _ _).alloc (Nat.le_refl _) _).alloc (by simp) _) (by omega) _
  have hs1 : W1.heap.size = B + 2 := by rw [← hW1, hB]; simp
  clear hW1
  refine (pad_any N (by omega) _).mono ?_
  rintro e W2 ⟨p, rfl, hop, hb2⟩
  have hap := isArg_of_owns hop
  have hv2 := (HV.out.below (by rw [← hB]; exact hb1)).below hb2
  have hd2 := (hb2.block _ (Array.getElem?_eq_some_iff.1 hd1).1).trans hd1
  have hh2 := (hb2.block _ (Array.getElem?_eq_some_iff.1 hh1).1).trans hh1
  have hs2 := hb2.size
  have hbw2 := hb1.trans (hb2.mono (by omega))
  have hcc := concat_two hv2 hap (by have := HN.out; have := padOf_length N; unfold padZeros at this; simp; omega)
  obtain ⟨a1, c1, hp⟩ := hap.1.shape
  obtain ⟨n1, hn1⟩ : ∃ n1, n1 = (padOf N).length := ⟨_, rfl⟩
  rw [← hn1] at hp
  subst hp
  have HCC := Lib.hid hcc
  have HD2 := Lib.hid hd2
  have HH2 := Lib.hid hh2
  have HW2 := Lib.hid hbw2
  have HB := Lib.hid hB
  have HN1 := Lib.hid hn1
  clear hap hcc hop hv2 hd2 hh2 hbw2 hd1 hh1 hb1 hb2 hs1 hB hn1 HRT
  go_wp2_with fail
  refine HCC.out.mono ?_
  rintro e W3 ⟨r, rfl, ho3, hb3⟩
  obtain ⟨S, hS⟩ : ∃ S, S = l ++ padOf N := ⟨_, rfl⟩
  obtain ⟨M, hM⟩ : ∃ M, M = l.length + (padOf N).length := ⟨_, rfl⟩
  have hSM : S.length = M := by rw [hS, hM, List.length_append]
  rw [← hS, ← hM] at ho3
  obtain ⟨m, hm⟩ : ∃ m, m = M / 64 := ⟨_, rfl⟩
  have hM64 : M = 64 * m := by
    have h1 := padOf_whole N
    rw [HN.out] at h1
    rw [HN.out] at hM
    omega
  have hMs : M ≤ 100072 := by
    have h1 := padOf_length N
    unfold padZeros at h1
    have h2 := HN.out
    omega
  have hM0 : 0 < M := by
    have h1 := padOf_length N
    omega
  obtain ⟨gb, cap, cur, rfl, hgb, hgh, hncap, hcapm, htk⟩ : ∃ gb cap cur, r = .slice (some ⟨gb, 0, none⟩) M cap ∧ W2.heap.size ≤ gb ∧ W3.heap[gb]? = some (.cells cur 5 (0, 0)) ∧ M ≤ cap ∧ cap ≤ maxLen ∧ cur.toList.take M = byteCells S := by
    rcases ho3.2 with ⟨_, h0⟩ | ⟨gb, cap, cur, hv2, hbg, hh, hn, hmx, _, htk⟩
    · omega
    · exact ⟨gb, cap, cur, hv2, hbg, hh, hn, hmx, by simpa using htk⟩
  have hib := isBytes_of_owns (l := S) (by rw [hSM]; exact ho3)
  have hd3 := (hb3.block _ (Array.getElem?_eq_some_iff.1 HD2.out).1).trans HD2.out
  have hh3 := (hb3.block _ (Array.getElem?_eq_some_iff.1 HH2.out).1).trans HH2.out
  have hs3 := hb3.size
  have hB2 := (Array.getElem?_eq_some_iff.1 HH2.out).1
  have hw3 := HW2.out.trans (hb3.mono (by omega))
  have HIB := Lib.hid hib
  have HTK := Lib.hid htk
  have HG3 := Lib.hid hgh
  have HD3 := Lib.hid hd3
  have HH3 := Lib.hid hh3
  have HW3 := Lib.hid hw3
  have HS := Lib.hid hS
  have HSM := Lib.hid hSM
  have HM := Lib.hid hM64
  have HMd := Lib.hid hm
  clear ho3 hb3 hib htk hgh hd3 hh3 hw3 hS hSM hM hM64 hm HD2 HH2 HW2 HCC HN1 hcapm
  go_wp2_with fail
  refine (chunk_any _ S _ HIB.out).mono ?_
  rintro e W4 ⟨rfl, hW4⟩
  go_wp2_with fail
  generalize hW5 : (W3.alloc (.cells #[.slice (some ⟨gb, 0, none⟩) M cap] 24)).alloc (.cells #[.int .i64 64] 3) = W5
  clear W4 hW4
  have hs5 : W5.heap.size = W3.heap.size + 2 := by rw [← hW5]; simp
  have hb35 : Below W3.heap.size W3 W5 := by rw [← hW5]; exact ((Below.refl _ _).alloc (Nat.le_refl _) _).alloc (by simp) _
  have hB1 : W5.heap[W3.heap.size]? = some (.cells #[.slice (some ⟨gb, 0, none⟩) M cap] 24 (0, 0)) := by rw [← hW5]; exact heap_alloc2_old W3 _ _
  have hB2 : W5.heap[W3.heap.size + 1]? = some (.cells #[.int .i64 64] 3 (0, 0)) := by rw [← hW5]; exact heap_alloc2_new W3 _ _
  have hd5 := (hb35.block _ (Array.getElem?_eq_some_iff.1 HD3.out).1).trans HD3.out
  have hh5 := (hb35.block _ (Array.getElem?_eq_some_iff.1 HH3.out).1).trans HH3.out
  have hg5 := (hb35.block _ (Array.getElem?_eq_some_iff.1 HG3.out).1).trans HG3.out
  have hw5 := HW3.out.trans (hb35.mono (by omega))
  rw [HR0.out] at hh5
  have H5 := Lib.hid (And.intro (And.intro hh5 (And.intro hd5 (And.intro hg5 (And.intro hB1 hB2)))) hw5)
  have HS5 := Lib.hid hs5
  have lt1 : B + 1 < W3.heap.size := (Array.getElem?_eq_some_iff.1 HH3.out).1
  have lt2 : gb < W3.heap.size := (Array.getElem?_eq_some_iff.1 HG3.out).1
  have hgne : gb ≠ B + 1 := by omega
  clear hW5 hb35 hd5 hh5 hg5 hw5 hs5 hB1 hB2 HD3 HH3 HG3 HW3 HIB
  refine (wpIn_wide (n := 3)).1 (wpIn_rangeFunc_ownF (F := Fence.wide) rfl (by decide) (gf := 34) (lb := #[.pointer (some ⟨W3.heap.size, 0, none⟩), .pointer (some ⟨W3.heap.size + 1, 0, none⟩)]) rfl trivial (enters_of Tryd.func34 (by kernel_rfl) rfl)
    (chunk_stops Fence.wide (3 - 1) trivial rfl (by decide) W3.heap.size (W3.heap.size + 1) gb m M cap HM.out ?hm hncap W5 ?hb1 ?hb2 ?hc1 ?hc2) Two.trans ?hKb (Below.refl _ _) (fun _ => rfl)
    (fun pre W => (W.heap[B + 1]? = some (.cells (u32s (after S pre)).toArray 23 (0, 0)) ∧ W.heap[B]? = some (.cells zero32 33 (0, 0)) ∧ W.heap[gb]? = some (.cells cur 5 (0, 0)) ∧
      W.heap[W3.heap.size]? = some (.cells #[.slice (some ⟨gb, 0, none⟩) M cap] 24 (0, 0)) ∧ W.heap[W3.heap.size + 1]? = some (.cells #[.int .i64 64] 3 (0, 0))) ∧ Below B w W)
    (fun _ _ _ => False)
    (OwnFrom.and (OwnFrom.and (own_block _ _ _) (OwnFrom.and (own_block _ _ _) (OwnFrom.and (own_block _ _ _) (OwnFrom.and (own_block _ _ _) (own_block _ _ _))))) (ownFrom_below ?ob1 ?ob2))
    (fun _ _ _ _ _ hs _ _ => hs) H5.out
    (fun x => { tmps := #[.slice a N c, undef, .pointer (some ⟨B, 0, none⟩), .pointer (some ⟨B + 1, 0, none⟩), .slice (some ⟨gb, 64 * x.val, none⟩) 64 64, undef, undef, undef, .agg R0, .slice a N c, .slice a N c, .int .i64 N, .slice a1 n1 c1, .slice (some ⟨W2.heap.size, 0, none⟩) 2 2, .slice (some ⟨gb, 0, none⟩) M cap, .func (.func 34) #[] #[.pointer (some ⟨W3.heap.size, 0, none⟩), .pointer (some ⟨W3.heap.size + 1, 0, none⟩)], .slice (some ⟨gb, 64 * x.val, none⟩) 64 64, undef, undef, undef, undef, undef, undef, undef, undef, undef, undef, undef, undef, undef, undef, undef, undef, undef], defers := [] }) ?assign ?body ?done ?stop)
  case hm => have := HM.out; omega
  case hb1 => have := HS5.out; omega
  case hb2 => have := HS5.out; omega
  case hc1 => exact cell_of_row _ _ 0 _ _ _ H5.out.1.2.2.2.1
  case hc2 => exact cell_of_row _ _ 0 _ _ _ H5.out.1.2.2.2.2
  case hKb =>
    intro W q o o' hq _ _ _
    have := HS5.out
    exact ⟨World.putObj_heap_other (by omega), World.putObj_heap_other (by omega)⟩
  case ob1 => exact Nat.le_of_eq HB.out
  case ob2 => have := HS5.out; omega
  case assign =>
    intro q x W K hK
    simp only [piece]
    gi_wp2
    exact hK
  case body =>
    rintro q pre x W ⟨⟨h1, h2, h3, h4, h5⟩, hB⟩ _
    have hp := piece_bytes (t := 5) h3 HTK.out HSM.out (64 * x.val) 64 (by have := x.isLt; have := HM.out; omega)
    have hpl : ((S.drop (64 * x.val)).take 64).length = 64 := by have := x.isLt; have := HM.out; have := HSM.out; simp; omega
    have htn := turn_this _ _ (after S pre) (after_length S pre) (after_32 S pre) W hp hpl (HLd.out.below (by rw [← HB.out]; exact hB))
    have hlen2 := after_length S (pre ++ [x])
    have hsn := after_snoc S pre x
    rw [← hsn] at htn
    obtain ⟨x0, x1, x2, x3, x4, x5, x6, x7, hx⟩ := eight_of (after_length S pre)
    obtain ⟨y0, y1, y2, y3, y4, y5, y6, y7, hy⟩ := eight_of hlen2
    rw [hx] at h1
    rw [hx, hy] at htn
    have hI : ∀ Z, Z = (u32s [y0, y1, y2, y3, y4, y5, y6, y7]).toArray → Z = (u32s (after S (pre ++ [x]))).toArray := fun Z hZ => by rw [hy]; exact hZ
    have htn2 : Calls Tryd.prog 10 #[.agg #[.int .u32 x0, .int .u32 x1, .int .u32 x2, .int .u32 x3, .int .u32 x4, .int .u32 x5, .int .u32 x6, .int .u32 x7], .slice (some ⟨gb, 64 * x.val, none⟩) 64 64] W fun z w' => z = .returned (.agg #[.int .u32 y0, .int .u32 y1, .int .u32 y2, .int .u32 y3, .int .u32 y4, .int .u32 y5, .int .u32 y6, .int .u32 y7]) ∧ Below W.heap.size W w' := htn
    have h1' : W.heap[B + 1]? = some (.cells #[.int .u32 x0, .int .u32 x1, .int .u32 x2, .int .u32 x3, .int .u32 x4, .int .u32 x5, .int .u32 x6, .int .u32 x7] 23 (0, 0)) := h1
    have c0 : W.cell? ⟨B + 1, 0, none⟩ = some (.int .u32 x0) := cell_of_row _ _ 0 _ _ _ h1'
    have c1 : W.cell? ⟨B + 1, 1, none⟩ = some (.int .u32 x1) := cell_of_row _ _ 1 _ _ _ h1'
    have c2 : W.cell? ⟨B + 1, 2, none⟩ = some (.int .u32 x2) := cell_of_row _ _ 2 _ _ _ h1'
    have c3 : W.cell? ⟨B + 1, 3, none⟩ = some (.int .u32 x3) := cell_of_row _ _ 3 _ _ _ h1'
    have c4 : W.cell? ⟨B + 1, 4, none⟩ = some (.int .u32 x4) := cell_of_row _ _ 4 _ _ _ h1'
    have c5 : W.cell? ⟨B + 1, 5, none⟩ = some (.int .u32 x5) := cell_of_row _ _ 5 _ _ _ h1'
    have c6 : W.cell? ⟨B + 1, 6, none⟩ = some (.int .u32 x6) := cell_of_row _ _ 6 _ _ _ h1'
    have c7 : W.cell? ⟨B + 1, 7, none⟩ = some (.int .u32 x7) := cell_of_row _ _ 7 _ _ _ h1'
    have HT := Lib.hid htn2
    have G1 := Lib.hid h1'
    have G2 := Lib.hid h2
    have G3 := Lib.hid h3
    have G4 := Lib.hid h4
    have G5 := Lib.hid h5
    have GB := Lib.hid hB
    have GI := Lib.hid hI
    clear htn htn2 h1 h1' h2 h3 h4 h5 hB hI hp hpl hlen2 hsn hx hy
    clear c0 c1 c2 c3 c4 c5 c6 c7
    have c0 : W.cell? ⟨B + 1, 0, none⟩ = some (.int .u32 x0) := cell_of_row _ _ 0 _ _ _ G1.out
    have c1 : W.cell? ⟨B + 1, 1, none⟩ = some (.int .u32 x1) := cell_of_row _ _ 1 _ _ _ G1.out
    have c2 : W.cell? ⟨B + 1, 2, none⟩ = some (.int .u32 x2) := cell_of_row _ _ 2 _ _ _ G1.out
    have c3 : W.cell? ⟨B + 1, 3, none⟩ = some (.int .u32 x3) := cell_of_row _ _ 3 _ _ _ G1.out
    have c4 : W.cell? ⟨B + 1, 4, none⟩ = some (.int .u32 x4) := cell_of_row _ _ 4 _ _ _ G1.out
    have c5 : W.cell? ⟨B + 1, 5, none⟩ = some (.int .u32 x5) := cell_of_row _ _ 5 _ _ _ G1.out
    have c6 : W.cell? ⟨B + 1, 6, none⟩ = some (.int .u32 x6) := cell_of_row _ _ 6 _ _ _ G1.out
    have c7 : W.cell? ⟨B + 1, 7, none⟩ = some (.int .u32 x7) := cell_of_row _ _ 7 _ _ _ G1.out
    gi_wp2_with fail
    refine ⟨trivial, (CallsIn.inRound q (callsIn_wide.2 HT.out)).mono ?_⟩
    rintro e w1 ⟨rfl, hbt⟩
    clear c0 c1 c2 c3 c4 c5 c6 c7
    have K1 := Lib.hid ((hbt.block _ (Array.getElem?_eq_some_iff.1 G1.out).1).trans G1.out)
    have hbl : ∀ k, k < W.heap.size → k ≠ B + 1 → ∀ Z : World, (∀ k, k ≠ B + 1 → Z.heap[k]? = w1.heap[k]?) → Z.heap[k]? = W.heap[k]? := fun k hk hne Z hZ => (hZ k hne).trans (hbt.block k hk)
    have HBL := Lib.hid hbl
    have HBT := Lib.hid hbt
    clear hbl hbt
    have c0 : w1.cell? ⟨B + 1, 0, none⟩ = some (.int .u32 x0) := cell_of_row _ _ 0 _ _ _ K1.out
    have c1 : w1.cell? ⟨B + 1, 1, none⟩ = some (.int .u32 x1) := cell_of_row _ _ 1 _ _ _ K1.out
    have c2 : w1.cell? ⟨B + 1, 2, none⟩ = some (.int .u32 x2) := cell_of_row _ _ 2 _ _ _ K1.out
    have c3 : w1.cell? ⟨B + 1, 3, none⟩ = some (.int .u32 x3) := cell_of_row _ _ 3 _ _ _ K1.out
    have c4 : w1.cell? ⟨B + 1, 4, none⟩ = some (.int .u32 x4) := cell_of_row _ _ 4 _ _ _ K1.out
    have c5 : w1.cell? ⟨B + 1, 5, none⟩ = some (.int .u32 x5) := cell_of_row _ _ 5 _ _ _ K1.out
    have c6 : w1.cell? ⟨B + 1, 6, none⟩ = some (.int .u32 x6) := cell_of_row _ _ 6 _ _ _ K1.out
    have c7 : w1.cell? ⟨B + 1, 7, none⟩ = some (.int .u32 x7) := cell_of_row _ _ 7 _ _ _ K1.out
    have f0 : w1.frozen? ⟨B + 1, 0, none⟩ = false := frozen_of_row _ _ 0 _ _ K1.out
    have f1 : w1.frozen? ⟨B + 1, 1, none⟩ = false := frozen_of_row _ _ 1 _ _ K1.out
    have f2 : w1.frozen? ⟨B + 1, 2, none⟩ = false := frozen_of_row _ _ 2 _ _ K1.out
    have f3 : w1.frozen? ⟨B + 1, 3, none⟩ = false := frozen_of_row _ _ 3 _ _ K1.out
    have f4 : w1.frozen? ⟨B + 1, 4, none⟩ = false := frozen_of_row _ _ 4 _ _ K1.out
    have f5 : w1.frozen? ⟨B + 1, 5, none⟩ = false := frozen_of_row _ _ 5 _ _ K1.out
    have f6 : w1.frozen? ⟨B + 1, 6, none⟩ = false := frozen_of_row _ _ 6 _ _ K1.out
    have f7 : w1.frozen? ⟨B + 1, 7, none⟩ = false := frozen_of_row _ _ 7 _ _ K1.out
    gi_wp2_with fail
    refine eight_end K1.out (P := fun Z => ownPostK (Two W3.heap.size (W3.heap.size + 1)) _ _ (pre ++ [x]) W Exit.normal _ Z) (fun Z z1 z2 z3 z4 => ?_)
    have l1 := (Array.getElem?_eq_some_iff.1 G1.out).1
    have l2 := (Array.getElem?_eq_some_iff.1 G2.out).1
    have l3 := (Array.getElem?_eq_some_iff.1 G3.out).1
    have l4 := (Array.getElem?_eq_some_iff.1 G4.out).1
    have l5 := (Array.getElem?_eq_some_iff.1 G5.out).1
    have s1 := HBT.out.size
    have e4 := HBL.out _ l4 (by omega) Z z2
    have e5 := HBL.out _ l5 (by omega) Z z2
    refine ⟨⟨by omega, fun k o hk ho => ?_⟩, ⟨e4, e5⟩, ⟨?_, (HBL.out _ l2 (by omega) Z z2).trans G2.out, (HBL.out _ l3 hgne Z z2).trans G3.out, e4.trans G4.out, e5.trans G5.out⟩, z4 B w (GB.out.trans (HBT.out.mono (by omega))) (by omega)⟩
    · by_cases hk2 : k = B + 1
      · subst hk2
        rw [G1.out] at hk
        cases hk
        cases ho
      · exact (HBL.out k (Array.getElem?_eq_some_iff.1 hk).1 hk2 Z z2).trans hk
    · rw [z1, ← GI.out _ rfl]
      rfl
  case done =>
    rintro D ys W hD hys ⟨⟨h1, h2, h3, h4, h5⟩, hB⟩ hK
    rw [after_first S hys] at h1
    have HSH := Lib.hid (show shaOf l = digestOf (blocksTo S m) by
      have h6 := HMd.out
      have h7 := HSM.out
      unfold shaOf
      rw [← HN.out, ← HS.out, h7, h6])
    obtain ⟨st, hst⟩ : ∃ st, st = blocksTo S m := ⟨_, rfl⟩
    have HST8 := Lib.hid (show st.length = 8 by rw [hst]; exact blocksTo_length _ _)
    have HX32 := Lib.hid (show ∀ i, st.getD i 0 < 4294967296 from fun i => by rw [hst]; exact getD_32 (blocksTo_32 _ _) i)
    rw [← hst] at h1 HSH
    clear hst
    obtain ⟨z0, z1, z2, z3, z4, z5, z6, z7, hz⟩ := eight_of HST8.out
    have HZ := Lib.hid hz
    rw [hz] at h1
    have h1' : W.heap[B + 1]? = some (.cells #[.int .u32 z0, .int .u32 z1, .int .u32 z2, .int .u32 z3, .int .u32 z4, .int .u32 z5, .int .u32 z6, .int .u32 z7] 23 (0, 0)) := h1
    have lB := (Array.getElem?_eq_some_iff.1 h2).1
    have lD := (Array.getElem?_eq_some_iff.1 hK).1
    obtain ⟨g, hg⟩ : ∃ g, g = W.heap.size := ⟨_, rfl⟩
    have H0 := Lib.hid (show (W.alloc (.cells zero32 33)).heap[g]? = some (.cells (dRow st 0).toArray 33 (0, 0)) by rw [hg, dRow_zero]; exact heap_alloc_new W _)
    have H2 := Lib.hid (show (W.alloc (.cells zero32 33)).heap[B]? = some (.cells zero32 33 (0, 0)) from (Below.heap_alloc _ _ _ lB).trans h2)
    have HK := Lib.hid (show (W.alloc (.cells zero32 33)).heap[D]? = some (.deferred (some [])) from (Below.heap_alloc _ _ _ lD).trans hK)
    have H1 := Lib.hid (show (W.alloc (.cells zero32 33)).heap[B + 1]? = some (.cells #[.int .u32 z0, .int .u32 z1, .int .u32 z2, .int .u32 z3, .int .u32 z4, .int .u32 z5, .int .u32 z6, .int .u32 z7] 23 (0, 0)) from (Below.heap_alloc _ _ _ (Array.getElem?_eq_some_iff.1 h1').1).trans h1')
    have hW := Lib.hid (show Below B w (W.alloc (.cells zero32 33)) from hB.alloc (by omega) _)
    have hgB : B ≤ g := by omega
    have hgD : D < g := by omega
    have hgB2 : B < g := by omega
    have HG := Lib.hid hg
    clear h1 h1' h2 h3 h4 h5 hB hK hz lB lD
    go_upto_region 6 with fail
    rw [← zero32_lit, ← hg]
    obtain ⟨Wa, hWa⟩ : ∃ Wa, Wa = W.alloc (.cells zero32 33) := ⟨_, rfl⟩
    rw [← hWa] at H0 H1 H2 HK hW
    rw [← hWa]
    clear hWa hg
    have c0 : Wa.cell? ⟨B + 1, 0, none⟩ = some (.int .u32 z0) := cell_of_row _ _ 0 _ _ _ H1.out
    have c1' : Wa.cell? ⟨B + 1, 1, none⟩ = some (.int .u32 z1) := cell_of_row _ _ 1 _ _ _ H1.out
    have c2 : Wa.cell? ⟨B + 1, 2, none⟩ = some (.int .u32 z2) := cell_of_row _ _ 2 _ _ _ H1.out
    have c3 : Wa.cell? ⟨B + 1, 3, none⟩ = some (.int .u32 z3) := cell_of_row _ _ 3 _ _ _ H1.out
    have c4 : Wa.cell? ⟨B + 1, 4, none⟩ = some (.int .u32 z4) := cell_of_row _ _ 4 _ _ _ H1.out
    have c5 : Wa.cell? ⟨B + 1, 5, none⟩ = some (.int .u32 z5) := cell_of_row _ _ 5 _ _ _ H1.out
    have c6 : Wa.cell? ⟨B + 1, 6, none⟩ = some (.int .u32 z6) := cell_of_row _ _ 6 _ _ _ H1.out
    have c7 : Wa.cell? ⟨B + 1, 7, none⟩ = some (.int .u32 z7) := cell_of_row _ _ 7 _ _ _ H1.out
    go_wp2_with fail
    clear c0 c1' c2 c3 c4 c5 c6 c7
    go_loopw [6, 7, 21] (fun _ _ c wr => ∃ j : Nat, j ≤ 8 ∧ c = .int .i64 j ∧ wr.heap[g]? = some (.cells (dRow st j).toArray 33 (0, 0)) ∧ wr.heap[B]? = some (.cells zero32 33 (0, 0)) ∧ wr.heap[D]? = some (.deferred (some [])) ∧ Below B w wr) (fun _ _ c _ => 8 - (intOf c).toNat)
    case atStart => exact ⟨0, by omega, rfl, H0.out, H2.out, HK.out, hW.out⟩
    case round =>
      obtain ⟨j, hj, rfl, sD, sR, sK, sW⟩ := hrel
      have SD := Lib.hid sD
      have SR := Lib.hid sR
      have SK := Lib.hid sK
      have SW := Lib.hid sW
      clear sD sR sK sW
      by_cases hjt : j < 8
      · obtain ⟨x, hx⟩ : ∃ x, x = st.getD j 0 := ⟨_, rfl⟩
        have hix : ∀ Z : World, (Instr.index 23 (.agg #[.int .u32 z0, .int .u32 z1, .int .u32 z2, .int .u32 z3, .int .u32 z4, .int .u32 z5, .int .u32 z6, .int .u32 z7]) (.int .i64 j)).run Tryd.prog Z = .ok (.int .u32 (x : Nat)) Z := fun Z => by
          rw [hx, HZ.out]
          exact index_eight z0 z1 z2 z3 z4 z5 z6 z7 j hjt Z
        obtain ⟨L, hLs⟩ : ∃ L, L = wr.heap.size := ⟨_, rfl⟩
        have HLs := Lib.hid hLs
        have HX := Lib.hid hx
        clear hx hLs
        go_wp2_with fail
        clear hix
        have HM4 := Lib.hid (show IntKind.i64.wrap (4 * (j : Int)) = 4 * (j : Int) from IntWalk.i64_in _ (by omega))
        have HCX := Lib.hid (show IntKind.u64.wrap (x : Int) = (x : Int) from IntWalk.u64_in _ (by have h1 := HX32.out j; rw [← HX.out] at h1; omega))
        have HSD := Lib.hid (show ∀ Z : World, (Instr.sliceAt 33 (.pointer (some ⟨g, 0, none⟩)) (some (.int .i64 (4 * (j : Int)))) none none).run Tryd.prog Z = .ok (.slice (some ⟨g, 4 * j, none⟩) (32 - 4 * j) (32 - 4 * j)) Z from fun Z => digest_from g j hjt Z)
        generalize decide ((j : Int) < 8) = d22
        refine wp_region_inv (by kernel_rfl) (by kernel_rfl) (fun ls a' W => ∃ (b0 b1 b2 b3 b4 b5 b6 : Bool) (s25 s26 s27 s28 s29 s30 s31 : Value), ls = #[b0, b1, b2, b3, b4, b5, b6] ∧ a' = { tmps := #[.slice a N c, undef, .pointer (some ⟨B, 0, none⟩), .pointer (some ⟨B + 1, 0, none⟩), undef, .pointer (some ⟨g, 0, none⟩), .int .i64 j, .int .u32 (x : Nat), .agg R0, .slice a N c, .slice a N c, .int .i64 N, .slice a1 n1 c1, .slice (some ⟨W2.heap.size, 0, none⟩) 2 2, .slice (some ⟨gb, 0, none⟩) M cap, .func (.func 34) #[] #[.pointer (some ⟨W3.heap.size, 0, none⟩), .pointer (some ⟨W3.heap.size + 1, 0, none⟩)], undef, undef, undef, undef, .agg #[.int .u32 z0, .int .u32 z1, .int .u32 z2, .int .u32 z3, .int .u32 z4, .int .u32 z5, .int .u32 z6, .int .u32 z7], .int .i64 j, .bool d22, .int .i64 j, .int .u32 (x : Nat), s25, s26, s27, s28, s29, s30, s31, u32, undef], defers := [{ target := .collected D, args := #[] }] } ∧ (b0 = true → s25 = .int .i64 j) ∧ (b1 = true → s26 = .int .i64 (4 * (j : Int))) ∧ (b2 = true → s27 = .slice (some ⟨g, 4 * j, none⟩) (32 - 4 * j) (32 - 4 * j)) ∧ (b3 = true → s28 = .int .u32 (x : Nat)) ∧ (b4 = true → s29 = .int .u64 (x : Nat)) ∧ (b6 = true → b5 = true) ∧ (b5 = true → b6 = false → ∃ gr, s30 = .slice (some ⟨gr, 0, none⟩) 4 4 ∧ W.heap[gr]? = some (.cells (byteCells (beB x 4)).toArray 5 (0, 0)) ∧ L ≤ gr) ∧ (W.heap[g]? = some (.cells (if b6 then (dRow st (j + 1)).toArray else (dRow st j).toArray) 33 (0, 0))) ∧ (W.heap[B]? = some (.cells zero32 33 (0, 0))) ∧ (W.heap[D]? = some (.deferred (some []))) ∧ (Below B w W) ∧ (L ≤ W.heap.size)) ?h0 ?hsz ?hstep ?hdone
        case h0 => exact ⟨false, false, false, false, false, false, false, u25, u26, u27, u28, u29, u30, u31, rfl, rfl, (fun h => by cases h), (fun h => by cases h), (fun h => by cases h), (fun h => by cases h), (fun h => by cases h), (fun h => by cases h), (fun h => by cases h), SD.out, SR.out, SK.out, SW.out.drew, (Nat.le_of_eq HLs.out)⟩
        case hsz =>
          rintro ls a' W ⟨b0, b1, b2, b3, b4, b5, b6, s25, s26, s27, s28, s29, s30, s31, rfl, _⟩
          rfl
        case hstep =>
          rintro ls a' W ⟨b0, b1, b2, b3, b4, b5, b6, s25, s26, s27, s28, s29, s30, s31, rfl, rfl, h0, h1, h2, h3, h4, g6, g5, gD, gR, gK, gW, gL⟩ i hi
          rw [Region.ready, List.mem_filter, List.mem_range] at hi
          obtain ⟨hlt, hp⟩ := hi
          have hi7 : i = 0 ∨ i = 1 ∨ i = 2 ∨ i = 3 ∨ i = 4 ∨ i = 5 ∨ i = 6 := by simp at hlt; omega
          clear hlt
          rcases hi7 with rfl | rfl | rfl | rfl | rfl | rfl | rfl
          all_goals simp [Region.binds] at hp
          · have hn0 : b0 = false := by revert hp; cases b0 <;> simp
            clear hp
            subst hn0
            refine inv_op (o := ⟨some 25, _, _, _, _, _⟩) rfl (fun K' hK' => ?_)
            go_simp
            exact hK'.out _ _ ⟨true, b1, b2, b3, b4, b5, b6, _, s26, s27, s28, s29, s30, s31, rfl, rfl, (fun _ => rfl), h1, h2, h3, h4, g6, g5, gD, gR, gK, gW, gL⟩
          · have hn1 : b1 = false := by revert hp; cases b1 <;> simp
            have e0 : b0 = true := by revert hp; cases b0 <;> simp
            clear hp
            obtain rfl := h0 e0
            subst hn1
            refine inv_op (o := ⟨some 26, _, _, _, _, _⟩) rfl (fun K' hK' => ?_)
            have hm4 := HM4.out
            go_simp
            (try rw [hm4])
            exact hK'.out _ _ ⟨b0, true, b2, b3, b4, b5, b6, _, _, s27, s28, s29, s30, s31, rfl, rfl, h0, (fun _ => rfl), h2, h3, h4, g6, g5, gD, gR, gK, gW, gL⟩
          · have hn2 : b2 = false := by revert hp; cases b2 <;> simp
            have e1 : b1 = true := by revert hp; cases b1 <;> simp
            clear hp
            obtain rfl := h1 e1
            subst hn2
            refine inv_op (o := ⟨some 27, _, _, _, _, _⟩) rfl (fun K' hK' => ?_)
            have hsd := HSD.out W
            go_simp
            exact hK'.out _ _ ⟨b0, b1, true, b3, b4, b5, b6, s25, _, _, s28, s29, s30, s31, rfl, rfl, h0, h1, (fun _ => rfl), h3, h4, g6, g5, gD, gR, gK, gW, gL⟩
          · have hn3 : b3 = false := by revert hp; cases b3 <;> simp
            clear hp
            subst hn3
            refine inv_op (o := ⟨some 28, _, _, _, _, _⟩) rfl (fun K' hK' => ?_)
            go_simp
            exact hK'.out _ _ ⟨b0, b1, b2, true, b4, b5, b6, s25, s26, s27, _, s29, s30, s31, rfl, rfl, h0, h1, h2, (fun _ => rfl), h4, g6, g5, gD, gR, gK, gW, gL⟩
          · have hn4 : b4 = false := by revert hp; cases b4 <;> simp
            have e3 : b3 = true := by revert hp; cases b3 <;> simp
            clear hp
            obtain rfl := h3 e3
            subst hn4
            refine inv_op (o := ⟨some 29, _, _, _, _, _⟩) rfl (fun K' hK' => ?_)
            have hcx := HCX.out
            go_simp
            (try rw [hcx])
            exact hK'.out _ _ ⟨b0, b1, b2, b3, true, b5, b6, s25, s26, s27, _, _, s30, s31, rfl, rfl, h0, h1, h2, h3, (fun _ => rfl), g6, g5, gD, gR, gK, gW, gL⟩
          · have hn5 : b5 = false := by revert hp; cases b5 <;> simp
            have e4 : b4 = true := by revert hp; cases b4 <;> simp
            clear hp
            obtain rfl := h4 e4
            subst hn5
            refine inv_op (o := ⟨some 30, _, _, _, _, _⟩) rfl (fun K' hK' => ?_)
            have e6f : b6 = false := by cases b6 with | false => rfl | true => exact absurd (g6 rfl) (by simp)
            go_simp
            refine (be_row x 4 4 (clamped_of 4 (by decide)) W).mono ?_
            rintro e w1 ⟨gr, rfl, hr, hgr, hb1⟩
            have hz1 := hb1.size
            subst e6f
            exact hK'.out _ _ ⟨b0, b1, b2, b3, b4, true, false, s25, s26, s27, s28, _, _, s31, rfl, rfl, h0, h1, h2, h3, h4, (fun h => by cases h), (fun _ _ => ⟨gr, rfl, hr, by omega⟩), ((hb1.block _ (Array.getElem?_eq_some_iff.1 gD).1).trans gD), ((hb1.block _ (Array.getElem?_eq_some_iff.1 gR).1).trans gR), ((hb1.block _ (Array.getElem?_eq_some_iff.1 gK).1).trans gK), (gW.trans (hb1.mono (by have h1 := (Array.getElem?_eq_some_iff.1 gR).1; omega))), (by omega)⟩
          · have hn6 : b6 = false := by revert hp; cases b6 <;> simp
            have e2 : b2 = true := by revert hp; cases b2 <;> simp
            have e5 : b5 = true := by revert hp; cases b5 <;> simp
            clear hp
            obtain rfl := h2 e2
            subst hn6
            refine inv_op (o := ⟨some 31, _, _, _, _, _⟩) rfl (fun K' hK' => ?_)
            obtain ⟨gr, rfl, hr, hgr⟩ := g5 e5 rfl
            refine step_copy_splice rfl (.tmp 27) (.tmp 30) 24 24 rfl 5 Tryd.underlying24 size8 _ _ _ _ _ _ rfl rfl g (4 * j) (dRow st j) 33 gD (byteCells (beB x 4)) ?_ ?_ ?_ (byteCells_one _) g W (Below.refl _ _) (Nat.le_refl _) ?_
            · simp only [byteCells_length, beB_length]; show 4 = min 4 (32 - 4 * j); omega
            · exact fun _ => ⟨rfl, ⟨gr, 0, none⟩, rfl, fun q u hu => row_bytes hr hu⟩
            · have := dRow_length st j HST8.out (by omega); simp [byteCells]; omega
            intro w1 hg1 hb1
            have hz1 := hb1.size
            exact hK'.out _ _ ⟨b0, b1, b2, b3, b4, b5, true, s25, s26, _, s28, s29, _, _, rfl, rfl, h0, h1, h2, h3, h4, (fun _ => e5), (fun _ h => by cases h), (by rw [if_pos rfl, ← dRow_next st j x HST8.out hjt HX.out]; exact hg1), ((hb1.block _ hgB2).trans gR), ((hb1.block _ hgD).trans gK), (gW.trans (hb1.mono hgB)), (by omega)⟩
        case hdone =>
          rintro ls a' W ⟨b0, b1, b2, b3, b4, b5, b6, s25, s26, s27, s28, s29, s30, s31, rfl, rfl, h0, h1, h2, h3, h4, g6, g5, gD, gR, gK, gW, gL⟩ hall
          obtain rfl : b6 = true := hall 6 (by decide)
          rw [if_pos rfl] at gD
          have GD := Lib.hid gD
          have GR := Lib.hid gR
          have GK := Lib.hid gK
          have GW := Lib.hid gW
          clear gD gR gK gW g5 g6 gL hall h0 h1 h2 h3 h4
          dsimp only
          go_wp2_with fail
          go_roundw
          case rel => exact ⟨j + 1, by omega, by go_num, GD.out, GR.out, GK.out, GW.out⟩
          case measure => simp [intOf]; omega
      · obtain rfl : j = 8 := by omega
        have hsd := SD.out
        rw [dRow_all st HST8.out, ← HSH.out] at hsd
        obtain ⟨R, hR⟩ : ∃ R, R = (byteCells (shaOf l)).toArray := ⟨_, rfl⟩
        have HR32 := Lib.hid (show (some 32 : Option Nat) = some R.size ∧ zero32.size = R.size ∧ R.all (·.oneCell') = true from ⟨by rw [hR]; simp [byteCells, shaOf_length], by rw [hR]; simp [byteCells, shaOf_length]; rfl, by rw [hR]; exact all_oneCell_toArray (byteCells_one _)⟩)
        rw [← hR] at hsd
        have SD2 := Lib.hid hsd
        have HR := Lib.hid hR
        clear hsd hR SD
        go_wp2_with (first | (refine wpList_load_row rfl 33 _ rfl g rfl 33 R (0, 0) _ SD2.out und32 rfl (info32.trans HR32.out.1) ?_) | (refine wpList_store_row rfl 33 _ _ rfl B R rfl rfl 33 zero32 SR.out (info32.trans HR32.out.1) HR32.out.2.1 HR32.out.2.2 ?_))
        have hDB : D ≠ B := fun e => by
          have h1 := SK.out
          rw [e, SR.out] at h1
          cases h1
        have hK' : (wr.setRow B R).heap[D]? = some (.deferred (some [])) := (setRow_other _ _ _ _ hDB).trans SK.out
        refine ⟨by simp, .inl ⟨_, _, rfl, run_takeDeferred hK', ?_⟩⟩
        refine ⟨_, results_cell_row rfl _ _ B 33 R (0, 0) _ rfl ((World.putObj_heap_other (Ne.symm hDB)).trans (setRow_heap _ _ _ _ _ _ SR.out)) und32 rfl (info32.trans HR32.out.1), by rw [HR.out], ?_⟩
        have hbB : Below w.heap.size w (wr.setRow B R) := (below_setRow SW.out (Nat.le_refl _) R).mono (Nat.le_of_eq HB.out.symm)
        have hDw : w.heap.size ≤ D := by have h1 := HS5.out; have h2 := HB.out; omega
        exact hbB.trans (belowK_b (w := w) (Nat.le_refl _) _ D _ _ hDw hK' rfl rfl)
  case stop =>
    rintro D c pre W _ _ h _
    exact h.elim
end Go.Proofs.YtfaiblngchdpmaaDoor
