/- What Turn answers, for every state and block, where the table holds what is laid. -/
import Derived.Test.YtfaiblngchdpmaaDoorShaW
import Derived.Test.YtfaiblngchdpmaaDoorInv
namespace Go.Proofs.YtfaiblngchdpmaaDoor
open Go.RowKit Go.Lib

/-- What a call needs of the listed variables. -/
structure Laid (w : World) : Prop where
  k : ∃ t fr, w.heap[0]? = some (.cells (u32s kTab).toArray t fr)
  h : ∃ t fr, w.heap[1]? = some (.cells (u32s hTab).toArray t fr)
theorem Laid.below {w w' : World} (h : Laid w) (hb : Below w.heap.size w w') : Laid w' := by
  obtain ⟨⟨t, fr, h1⟩, ⟨t2, fr2, h2⟩⟩ := h
  exact ⟨⟨t, fr, (hb.block _ (Array.getElem?_eq_some_iff.1 h1).1).trans h1⟩, ⟨t2, fr2, (hb.block _ (Array.getElem?_eq_some_iff.1 h2).1).trans h2⟩⟩
theorem Laid.cube {w : World} (h : Laid w) (i : Nat) (hi : i < 64) : w.cell? ⟨0, i, none⟩ = some (.int .u32 (kTab.getD i 0 : Nat)) := by
  obtain ⟨t, fr, h1⟩ := h.k
  have hk : kTab.length = 64 := by decide +kernel
  refine (cell_of_row w _ i _ t fr h1).trans ?_
  simp [u32s, hk, hi]
theorem kTab_32 : All32 kTab := by unfold All32; decide +kernel
theorem zero8_lit : (u32s (List.replicate 8 0)).toArray = #[.int .u32 0, .int .u32 0, .int .u32 0, .int .u32 0, .int .u32 0, .int .u32 0, .int .u32 0, .int .u32 0] := by kernel_rfl
def zero8 : Array Value := #[.int .u32 0, .int .u32 0, .int .u32 0, .int .u32 0, .int .u32 0, .int .u32 0, .int .u32 0, .int .u32 0]
/-- The state when j words have been added to. -/
def addRow (v h : List Nat) (j : Nat) : List Nat := (addAll v h).take j ++ h.drop j
theorem addRow_zero (v h : List Nat) : addRow v h 0 = h := by simp [addRow]
theorem addRow_all (v h : List Nat) (hv : v.length = 8) (hh : h.length = 8) : addRow v h 8 = addAll v h := by
  have h1 := addAll_length v h hv hh
  unfold addRow
  rw [List.take_of_length_le (by omega), List.drop_of_length_le (by omega), List.append_nil]
theorem addRow_length (v h : List Nat) (hv : v.length = 8) (hh : h.length = 8) (j : Nat) (hj : j ≤ 8) : (addRow v h j).length = 8 := by
  have h1 := addAll_length v h hv hh
  simp [addRow, h1, hh]
  omega
theorem addRow_at (v h : List Nat) (j : Nat) (hv : v.length = 8) (hh : h.length = 8) (hj : j < 8) : (u32s (addRow v h j))[j]? = some (.int .u32 (h.getD j 0 : Nat)) := by
  have h1 := addAll_length v h hv hh
  have h2 : ((addAll v h).take j).length = j := by simp [h1]; omega
  have h3 : (addRow v h j)[j]? = some (h.getD j 0) := by
    unfold addRow
    rw [List.getElem?_append_right (by omega), h2, Nat.sub_self, List.getElem?_drop, Nat.add_zero]
    simp [hh, hj]
  simp [u32s, h3]
theorem addRow_set (v h : List Nat) (j : Nat) (hv : v.length = 8) (hh : h.length = 8) (hj : j < 8) : (u32s (addRow v h j)).set j (.int .u32 (((v.getD j 0 + h.getD j 0) % 4294967296 : Nat) : Int)) = u32s (addRow v h (j + 1)) := by
  have h1 := addAll_length v h hv hh
  have h2 : ((addAll v h).take j).length = j := by simp [h1]; omega
  have h4 : (addAll v h)[j]? = some ((v.getD j 0 + h.getD j 0) % 4294967296) := by
    unfold addAll
    rw [List.getElem?_zipWith]
    simp [hv, hh, hj, m32]
  unfold u32s addRow
  rw [← List.map_set, List.take_add_one, h4, List.set_append_right _ _ (by omega), h2, Nat.sub_self, List.drop_eq_getElem_cons (by omega), List.set_cons_zero, Option.toList_some, List.append_assoc]
  rfl
theorem roundsTo_32 (h w : List Nat) (hh : All32 h) (i : Nat) : All32 (roundsTo h w i) := by
  induction i with
  | zero => exact hh
  | succ i ih =>
    show All32 (roundN (roundsTo h w i) (kTab.getD i 0) (w.getD i 0))
    rw [roundA_N]
    exact roundA_32 _ _ ih
theorem block_type {w : World} {g : Nat} {cs cs' : Array Value} {t t' : TypeId} {fr fr' : Nat × Nat} (h : w.heap[g]? = some (.cells cs t fr)) (h' : w.heap[g]? = some (.cells cs' t' fr')) : t = t' := by
  rw [h] at h'
  have h2 := Option.some.inj h'
  injection h2
theorem loadAt_row {P : Program} {w : World} {g : Nat} {t ty : TypeId} {cs : Array Value} {fr : Nat × Nat} {d : TypeDesc} (hg : w.heap[g]? = some (.cells cs t fr))
    (hu : P.underlying ty = some d) (hd : (match d with | .struct _ | .array _ _ => true | _ => false) = true) (hi : (P.info? ty).map (·.size) = some cs.size) :
    (Instr.loadAt ty (.pointer (some ⟨g, 0, none⟩))).run P w = .ok (.agg cs) w := by
  simp only [Instr.loadAt, Instr.sureAddr, Sem.run_bind, Sem.run_pure, Result.andThen_ok, run_loadVar_row w g t ty cs fr d hg hu hd hi]
theorem storeAt_row {P : Program} {w : World} {g : Nat} {t ty : TypeId} {old cells : Array Value} (hg : w.heap[g]? = some (.cells old t (0, 0))) (hi : (P.info? ty).map (·.size) = some cells.size)
    (ho : old.size = cells.size) (h1 : cells.all (·.oneCell') = true) : (Instr.storeAt ty (.pointer (some ⟨g, 0, none⟩)) (.agg cells)).run P w = .ok () (w.setRow g cells) := by
  simp only [Instr.storeAt, Instr.sureAddr, Sem.run_bind, Sem.run_pure, Result.andThen_ok, run_storeVar_row w g t ty old cells hg hi ho h1]
set_option maxHeartbeats 2000000 in
set_option maxRecDepth 100000 in
theorem turn_other (a : Option Addr) (n c : Nat) (h : List Nat) (h8 : h.length = 8) (hn : n ≠ 64) (w : World) :
    Calls Tryd.prog 10 #[.agg (u32s h).toArray, .slice a n c] w fun z w' => z = .returned (.agg (u32s h).toArray) ∧ Below w.heap.size w w' := by
  have hne : ((n : Int) != 64) = true := by rw [bne_iff_ne]; omega
  clear hn
  obtain ⟨H, hH⟩ : ∃ H, H = (u32s h).toArray := ⟨_, rfl⟩
  have hs : (some 8 : Option Nat) = some H.size := by rw [hH]; simp [h8]
  have hz : zero8.size = H.size := by rw [hH]; simp [h8]; rfl
  have h1 : H.all (·.oneCell') = true := by rw [hH]; exact u32s_one _
  rw [← hH]
  have HS := Lib.hid hs
  have HZ := Lib.hid hz
  have H1 := Lib.hid h1
  clear hH hs hz h1
  go_enter Tryd.func10, Tryd.ntmps10
  go_upto_region 1 with fail
  rw [show (#[.int .u32 0, .int .u32 0, .int .u32 0, .int .u32 0, .int .u32 0, .int .u32 0, .int .u32 0, .int .u32 0] : Array Value) = zero8 from rfl]
  go_wp2_with (first | (refine wpList_load_row rfl 23 _ rfl w.heap.size rfl 23 H (0, 0) _ (heap_alloc2_old w _ _) und8x32 rfl (info8x32.trans HS.out) ?_) | (refine wpList_store_row rfl 23 _ _ rfl (w.heap.size + 1) H rfl rfl 23 zero8 (heap_alloc2_new w _ _) (info8x32.trans HS.out) HZ.out H1.out ?_))
  refine bodyPost_ret (results_cell_row rfl _ _ (w.heap.size + 1) 23 _ (0, 0) _ rfl (setRow_heap _ _ _ _ _ _ (heap_alloc2_new w _ _)) und8x32 rfl (info8x32.trans HS.out)) rfl ⟨rfl, ?_⟩
  exact below_setRow (((Below.refl _ _).alloc (Nat.le_refl _) _).alloc (by simp) _) (by omega) _

set_option maxHeartbeats 4000000 in
set_option maxRecDepth 100000 in
theorem turn_this (v : Value) (l : List UInt8) (h : List Nat) (h8 : h.length = 8) (h32 : All32 h) (w : World) (hv : IsBytes w v l) (hl : l.length = 64) (hL : Laid w) :
    Calls Tryd.prog 10 #[.agg (u32s h).toArray, v] w fun z w' => z = .returned (.agg (u32s (turnOf h l)).toArray) ∧ Below w.heap.size w w' := by
  obtain ⟨a, c, rfl⟩ := hv.shape
  rw [hl]
  rw [hl] at hv
  obtain ⟨H, hH⟩ : ∃ H, H = (u32s h).toArray := ⟨_, rfl⟩
  have hs : (some 8 : Option Nat) = some H.size := by rw [hH]; simp [h8]
  have hz : zero8.size = H.size := by rw [hH]; simp [h8]; rfl
  have h1 : H.all (·.oneCell') = true := by rw [hH]; exact u32s_one _
  rw [← hH]
  have HV := Lib.hid hv
  have HH := Lib.hid hH
  have HL := Lib.hid hL
  have HS := Lib.hid hs
  have HZ := Lib.hid hz
  have H1 := Lib.hid h1
  clear hH hs hz h1 hv hL
  go_enter Tryd.func10, Tryd.ntmps10
  go_upto_region 1 with fail
  rw [show (#[.int .u32 0, .int .u32 0, .int .u32 0, .int .u32 0, .int .u32 0, .int .u32 0, .int .u32 0, .int .u32 0] : Array Value) = zero8 from rfl]
  go_upto_region 3 with fail
  obtain ⟨W0, hW0⟩ : ∃ W0, W0 = (w.alloc (.cells H 23)).alloc (.cells zero8 23) := ⟨_, rfl⟩
  obtain ⟨B, hB⟩ : ∃ B, B = w.heap.size := ⟨_, rfl⟩
  have hsz : W0.heap.size = B + 2 := by rw [hW0, hB]; simp
  have hb0 : Below B w W0 := by rw [hW0, hB]; exact ((Below.refl _ _).alloc (Nat.le_refl _) _).alloc (by simp) _
  have hg0 : W0.heap[B]? = some (.cells H 23 (0, 0)) := by rw [hW0, hB]; exact heap_alloc2_old w _ _
  have hg1 : W0.heap[B + 1]? = some (.cells zero8 23 (0, 0)) := by rw [hW0, hB]; exact heap_alloc2_new w _ _
  rw [← hW0, ← hB]
  obtain ⟨K, hK⟩ : ∃ K, K = (u32s (wTo l 64)).toArray := ⟨_, rfl⟩
  have hwd : ∀ W, Below (B + 2) W0 W → Calls Tryd.prog 8 #[.slice a 64 c] W fun z w' => z = .returned (.agg K) ∧ Below W.heap.size W w' := fun W hb => by
    rw [hK]
    exact words_this _ l W ((HV.out.below (by rw [← hB]; exact hb0)).below (by rw [hsz]; exact hb)) hl
  have HWD := Lib.hid hwd
  have HK64 := Lib.hid (show (some 64 : Option Nat) = some K.size ∧ zero64.size = K.size ∧ K.all (·.oneCell') = true from ⟨by rw [hK]; simp [wTo_length], by rw [hK, zero64_size]; simp [wTo_length], by rw [hK]; exact u32s_one _⟩)
  have HB0 := Lib.hid hb0
  have HG0 := Lib.hid hg0
  have HG1 := Lib.hid hg1
  have HK := Lib.hid hK
  have HBw := Lib.hid hB
  have HLN := Lib.hid hl
  clear hW0 hb0 hg0 hg1 hwd hK hB hl
  have hstep_h3 : ∀ (b3 b5 : Bool) (s5 : Value) (W W' : World), Below W.heap.size W W' →
      (b3 = true → ∃ g, s5 = .pointer (some ⟨g, 0, none⟩) ∧ B + 2 ≤ g ∧ W.heap[g]? = some (.cells (if b5 then H else zero8) 23 (0, 0))) →
      (b3 = true → ∃ g, s5 = .pointer (some ⟨g, 0, none⟩) ∧ B + 2 ≤ g ∧ W'.heap[g]? = some (.cells (if b5 then H else zero8) 23 (0, 0))) := fun b3 b5 s5 W W' hbb h hb3 => by
    obtain ⟨g, e1, e2, e3⟩ := h hb3
    exact ⟨g, e1, e2, (hbb.block _ (Array.getElem?_eq_some_iff.1 e3).1).trans e3⟩
  have hstep_h4 : ∀ (b4 b6 : Bool) (s6 : Value) (W W' : World), Below W.heap.size W W' →
      (b4 = true → ∃ g, s6 = .pointer (some ⟨g, 0, none⟩) ∧ B + 2 ≤ g ∧ W.heap[g]? = some (.cells (if b6 then K else zero64) 26 (0, 0))) →
      (b4 = true → ∃ g, s6 = .pointer (some ⟨g, 0, none⟩) ∧ B + 2 ≤ g ∧ W'.heap[g]? = some (.cells (if b6 then K else zero64) 26 (0, 0))) := fun b4 b6 s6 W W' hbb h hb4 => by
    obtain ⟨g, e1, e2, e3⟩ := h hb4
    exact ⟨g, e1, e2, (hbb.block _ (Array.getElem?_eq_some_iff.1 e3).1).trans e3⟩
  have HH3 := Lib.hid hstep_h3
  have HH4 := Lib.hid hstep_h4
  clear hstep_h3 hstep_h4
  refine wp_region_inv (by kernel_rfl) (by kernel_rfl) (fun ls a' W => ∃ (b0 b1 b2 b3 b4 b5 b6 : Bool) (s5 s6 s13 s14 s15 : Value), ls = #[b0, b1, b2, b3, b4, b5, b6] ∧
      a' = { tmps := #[.agg H, .slice a 64 c, .pointer (some ⟨B, 0, none⟩), undef, .pointer (some ⟨B + 1, 0, none⟩), s5, s6, undef, undef, .slice a 64 c, .int .i64 64, .bool false, undef, s13, s14, s15, undef, undef, undef, undef, undef, undef, undef, undef, undef, undef, undef, undef, undef, undef, undef, undef, undef, undef, undef, undef, undef, undef, undef, undef, undef, undef], defers := [] } ∧
      (b0 = true → s13 = .agg H) ∧ (b1 = true → s14 = .slice a 64 c) ∧ (b2 = true → s15 = .agg K) ∧ (b5 = true → b3 = true) ∧ (b6 = true → b4 = true) ∧
      (b3 = true → ∃ g, s5 = .pointer (some ⟨g, 0, none⟩) ∧ B + 2 ≤ g ∧ W.heap[g]? = some (.cells (if b5 then H else zero8) 23 (0, 0))) ∧
      (b4 = true → ∃ g, s6 = .pointer (some ⟨g, 0, none⟩) ∧ B + 2 ≤ g ∧ W.heap[g]? = some (.cells (if b6 then K else zero64) 26 (0, 0))) ∧ B + 2 ≤ W.heap.size ∧ Below (B + 2) W0 W) ?h0 ?hsz ?hstep ?hdone
  case h0 => exact ⟨false, false, false, false, false, false, false, undef, undef, undef, undef, undef, rfl, rfl, by simp, by simp, by simp, by simp, by simp, by simp, by simp, by show B + 2 ≤ W0.heap.size; omega, (Below.refl _ _).drew⟩
  case hsz =>
    rintro ls a' W ⟨b0, b1, b2, b3, b4, b5, b6, s5, s6, s13, s14, s15, rfl, _⟩
    rfl
  case hstep =>
    rintro ls a' W ⟨b0, b1, b2, b3, b4, b5, b6, s5, s6, s13, s14, s15, rfl, rfl, h0, h1, h2, h53, h64, h3, h4, hWs, hb⟩ i hi
    rw [Region.ready, List.mem_filter, List.mem_range] at hi
    obtain ⟨hlt, hp⟩ := hi
    have hi7 : i = 0 ∨ i = 1 ∨ i = 2 ∨ i = 3 ∨ i = 4 ∨ i = 5 ∨ i = 6 := by simp at hlt; omega
    clear hlt
    rcases hi7 with rfl | rfl | rfl | rfl | rfl | rfl | rfl
    all_goals simp [Region.binds] at hp
    · refine inv_op (o := ⟨some 13, _, _, _, _, _⟩) rfl (fun K' hK' => ?_)
      rw [if_pos (by kernel_rfl)]
      refine wp_load_row 23 _ rfl B rfl 23 H (0, 0) _ ((hb.block B (by omega)).trans HG0.out) und8x32 rfl (info8x32.trans HS.out) ?_
      exact hK'.out _ _ ⟨true, b1, b2, b3, b4, b5, b6, s5, s6, _, s14, s15, rfl, rfl, fun _ => rfl, h1, h2, h53, h64, h3, h4, hWs, hb⟩
    · refine inv_op (o := ⟨some 14, _, _, _, _, _⟩) rfl (fun K' hK' => ?_)
      go_simp
      exact hK'.out _ _ ⟨b0, true, b2, b3, b4, b5, b6, s5, s6, s13, _, s15, rfl, rfl, h0, fun _ => rfl, h2, h53, h64, h3, h4, hWs, hb⟩
    · obtain rfl := h1 hp.2
      refine inv_op (o := ⟨some 15, _, _, _, _, _⟩) rfl (fun K' hK' => ?_)
      go_simp
      refine (HWD.out W hb).mono ?_
      rintro e w1 ⟨rfl, hb1⟩
      exact hK'.out _ _ ⟨b0, b1, true, b3, b4, b5, b6, s5, s6, s13, _, _, rfl, rfl, h0, fun _ => rfl, fun _ => rfl, h53, h64, HH3.out _ _ _ _ _ hb1 h3, HH4.out _ _ _ _ _ hb1 h4, by have := hb1.size; omega, hb.trans (hb1.mono hWs)⟩
    · have hb5 : b5 = false := by cases b5 with | false => rfl | true => have := h53 rfl; rw [hp] at this; cases this
      subst hb5
      refine inv_op (o := ⟨some 5, _, _, _, _, _⟩) rfl (fun K' hK' => ?_)
      go_simp
      have hbn : Below W.heap.size W (W.alloc (.cells zero8 23)) := (Below.refl _ _).alloc (Nat.le_refl _) _
      exact hK'.out _ _ ⟨b0, b1, b2, true, b4, false, b6, _, s6, s13, s14, s15, rfl, rfl, h0, h1, h2, fun _ => rfl, h64, fun _ => ⟨_, rfl, hWs, heap_alloc_new W _⟩, HH4.out _ _ _ _ _ hbn h4, by simp; omega, hb.trans (hbn.mono hWs)⟩
    · have hb6 : b6 = false := by cases b6 with | false => rfl | true => have := h64 rfl; rw [hp] at this; cases this
      subst hb6
      refine inv_op (o := ⟨some 6, _, _, _, _, _⟩) rfl (fun K' hK' => ?_)
      go_simp
      rw [← zero64_lit]
      have hbn : Below W.heap.size W (W.alloc (.cells zero64 26)) := (Below.refl _ _).alloc (Nat.le_refl _) _
      exact hK'.out _ _ ⟨b0, b1, b2, b3, true, b5, false, s5, _, s13, s14, s15, rfl, rfl, h0, h1, h2, h53, fun _ => rfl, HH3.out _ _ _ _ _ hbn h3, fun _ => ⟨_, rfl, hWs, heap_alloc_new W _⟩, by simp; omega, hb.trans (hbn.mono hWs)⟩
    · obtain ⟨rfl, rfl, rfl, rfl, -, -, rfl⟩ := hp
      obtain rfl := h0 rfl
      obtain ⟨g, rfl, hg2, hgh⟩ := h3 rfl
      refine inv_op (o := ⟨none, _, _, _, _, _⟩) rfl (fun K' hK' => ?_)
      rw [if_pos (by kernel_rfl)]
      refine wp_store_row 23 _ _ rfl g H rfl rfl 23 zero8 hgh (info8x32.trans HS.out) HZ.out H1.out ?_
      refine hK'.out _ _ ⟨true, b1, true, true, true, true, b6, _, s6, _, s14, s15, rfl, rfl, fun _ => rfl, h1, h2, fun _ => rfl, h64, fun _ => ⟨_, rfl, hg2, setRow_heap _ _ _ _ _ _ hgh⟩, fun _ => ?_, by rw [setRow_size]; exact hWs, below_setRow hb hg2 _⟩
      obtain ⟨g6, e1, e2, e3⟩ := h4 rfl
      refine ⟨g6, e1, e2, (setRow_other _ _ _ _ (fun e => ?_)).trans e3⟩
      subst e
      exact absurd (block_type hgh e3) (by decide)
    · obtain ⟨rfl, hp⟩ := hp
      have hb2 : b2 = true := by simp_all
      have hb4 : b4 = true := by simp_all
      have hb5 : b5 = true := by simp_all
      subst hb2 hb4 hb5
      obtain rfl := h2 rfl
      obtain ⟨g, rfl, hg2, hgh⟩ := h4 rfl
      refine inv_op (o := ⟨none, _, _, _, _, _⟩) rfl (fun K' hK' => ?_)
      rw [if_pos (by kernel_rfl)]
      refine wp_store_row 26 _ _ rfl g K rfl rfl 26 zero64 hgh (info64x32.trans HK64.out.1) HK64.out.2.1 HK64.out.2.2 ?_
      refine hK'.out _ _ ⟨b0, b1, true, b3, true, true, true, s5, _, s13, s14, _, rfl, rfl, h0, h1, fun _ => rfl, h53, fun _ => rfl, fun hb3 => ?_, fun _ => ⟨_, rfl, hg2, setRow_heap _ _ _ _ _ _ hgh⟩, by rw [setRow_size]; exact hWs, below_setRow hb hg2 _⟩
      obtain ⟨g5, e1, e2, e3⟩ := h3 hb3
      refine ⟨g5, e1, e2, (setRow_other _ _ _ _ (fun e => ?_)).trans e3⟩
      subst e
      exact absurd (block_type hgh e3) (by decide)
  case hdone =>
    rintro ls a' W ⟨b0, b1, b2, b3, b4, b5, b6, s5, s6, s13, s14, s15, rfl, rfl, h0, h1, h2, h53, h64, h3, h4, hWs, hb⟩ hall
    obtain rfl : b3 = true := hall 3 (by decide)
    obtain rfl : b4 = true := hall 4 (by decide)
    obtain rfl : b5 = true := hall 5 (by decide)
    obtain rfl : b6 = true := hall 6 (by decide)
    obtain ⟨g5, rfl, hg5, hh5⟩ := h3 rfl
    obtain ⟨g6, rfl, hg6, hh6⟩ := h4 rfl
    clear h0 h1 h2 h53 h64 h3 h4 hall HH3 HH4
    have hhB : W.heap[B]? = some (.cells H 23 (0, 0)) := (hb.block B (by omega)).trans HG0.out
    have hhR : W.heap[B + 1]? = some (.cells zero8 23 (0, 0)) := (hb.block (B + 1) (by omega)).trans HG1.out
    have hbW : Below B w W := HB0.out.trans (hb.mono (by omega))
    have h56 : g5 ≠ g6 := fun e => by
      subst e
      exact absurd (block_type hh5 hh6) (by decide)
    rw [if_pos rfl, HH.out] at hh5
    rw [if_pos rfl] at hh6
    have HH5 := Lib.hid hh5
    have HH6 := Lib.hid hh6
    have HHB := Lib.hid hhB
    have HHR := Lib.hid hhR
    have HBW := Lib.hid hbW
    clear hh5 hh6 hhB hhR hbW hb HB0 HG0 HG1 HWD hsz
    dsimp only
    go_wp2_with fail
    go_loopw [7, 16] (fun x7 c wr => ∃ i : Nat, i ≤ 64 ∧ c = .int .i64 i ∧ wr.heap[g5]? = some (.cells (u32s (roundsTo h (wTo l 64) i)).toArray 23 (0, 0)) ∧ wr.heap[g6]? = some (.cells K 26 (0, 0)) ∧
      wr.heap[B]? = some (.cells H 23 (0, 0)) ∧ wr.heap[B + 1]? = some (.cells zero8 23 (0, 0)) ∧ Below B w wr) (fun _ c _ => 64 - (intOf c).toNat)
    case atStart => exact ⟨0, by omega, rfl, HH5.out, HH6.out, HHB.out, HHR.out, HBW.out⟩
    case round =>
      obtain ⟨i, hi, rfl, hr5, hr6, hrB, hrR, hbw⟩ := hrel
      have R5 := Lib.hid hr5
      have R6 := Lib.hid hr6
      have RB := Lib.hid hrB
      have RR := Lib.hid hrR
      have RW := Lib.hid hbw
      clear hr5 hr6 hrB hrR hbw
      by_cases hlt : i < 64
      · go_wp2_with fail
        obtain ⟨v, hv⟩ : ∃ v, v = roundsTo h (wTo l 64) i := ⟨_, rfl⟩
        obtain ⟨kk, hkk⟩ : ∃ k, k = kTab.getD i 0 := ⟨_, rfl⟩
        obtain ⟨xx, hxx⟩ : ∃ x, x = (wTo l 64).getD i 0 := ⟨_, rfl⟩
        obtain ⟨add, hadd⟩ : ∃ d, d = (kk + xx) % 4294967296 := ⟨_, rfl⟩
        obtain ⟨v1, hv1⟩ : ∃ v1, v1 = roundA v add := ⟨_, rfl⟩
        have hvn : v1 = roundsTo h (wTo l 64) (i + 1) := by
          rw [hv1, hadd, ← roundA_N, hv, hkk, hxx]
          rfl
        have hv8 : v.length = 8 := by rw [hv]; exact roundsTo_length _ _ h8 _
        have hv32 : All32 v := by rw [hv]; exact roundsTo_32 _ _ h32 _
        have HV8 := Lib.hid (show (some 8 : Option Nat) = some (u32s v).toArray.size ∧ (some 8 : Option Nat) = some (u32s v1).toArray.size ∧ (u32s v).toArray.size = (u32s v1).toArray.size from ⟨by simp [hv8], by rw [hv1]; simp [roundA_length], by rw [hv1]; simp [hv8, roundA_length]⟩)
        have hrnd := fun W : World => round_any v add hv8 hv32 W
        rw [← hv1] at hrnd
        have HRND := Lib.hid hrnd
        have HADD := Lib.hid (show IntKind.u32.wrap ((kk : Int) + (xx : Int)) = ((add : Nat) : Int) by rw [IntKind.wrap_u32']; omega)
        have HKC := Lib.hid (show ∀ W, Below B w W → W.cell? ⟨0, i, none⟩ = some (.int .u32 (kk : Nat)) from fun W hb => by rw [hkk]; exact (HL.out.below (by rw [← HBw.out]; exact hb)).cube i hlt)
        have HXC := Lib.hid (show ∀ W : World, W.heap[g6]? = some (.cells K 26 (0, 0)) → W.cell? ⟨g6, i, none⟩ = some (.int .u32 (xx : Nat)) from fun W hW => by
          rw [HK.out] at hW
          exact row_at hW (by rw [hxx]; simp [u32s, wTo_length, hlt]))
        have HVN := Lib.hid hvn
        rw [← hv] at R5
        clear hv hkk hxx hadd hv1 hvn hv8 hv32 hrnd
        generalize decide ((i : Int) < 64) = d17
        refine wp_region_inv (by kernel_rfl) (by kernel_rfl) (fun ls a' W => ∃ (b0 b1 b2 b3 b4 b5 b6 b7 b8 b9 : Bool) (s19 s20 s21 s22 s23 s24 s25 s26 s27 : Value), ls = #[b0, b1, b2, b3, b4, b5, b6, b7, b8, b9] ∧ a' = { tmps := #[.agg H, .slice a 64 c, .pointer (some ⟨B, 0, none⟩), undef, .pointer (some ⟨B + 1, 0, none⟩), .pointer (some ⟨g5, 0, none⟩), .pointer (some ⟨g6, 0, none⟩), .int .i64 i, undef, .slice a 64 c, .int .i64 64, .bool false, undef, s13, s14, s15, .int .i64 i, .bool d17, .int .i64 i, s19, s20, s21, s22, s23, s24, s25, s26, s27, u28, undef, undef, undef, undef, undef, undef, undef, undef, undef, undef, undef, undef, undef], defers := [] } ∧ (b0 = true → s19 = .agg (u32s v).toArray) ∧ (b1 = true → s20 = .int .i64 i) ∧ (b2 = true → s21 = .pointer (some ⟨0, i, none⟩)) ∧ (b3 = true → s22 = .int .u32 (kk : Nat)) ∧ (b4 = true → s23 = .int .i64 i) ∧ (b5 = true → s24 = .pointer (some ⟨g6, i, none⟩)) ∧ (b6 = true → s25 = .int .u32 (xx : Nat)) ∧ (b7 = true → s26 = .int .u32 (add : Nat)) ∧ (b8 = true → s27 = .agg (u32s v1).toArray) ∧ (b9 = true → b0 = true) ∧ (W.heap[g5]? = some (.cells (if b9 then (u32s v1).toArray else (u32s v).toArray) 23 (0, 0))) ∧ (W.heap[g6]? = some (.cells K 26 (0, 0))) ∧ (W.heap[B]? = some (.cells H 23 (0, 0))) ∧ (W.heap[B + 1]? = some (.cells zero8 23 (0, 0))) ∧ (Below B w W)) ?h0 ?hsz ?hstep ?hdone
        case h0 => exact ⟨false, false, false, false, false, false, false, false, false, false, u19, u20, u21, u22, u23, u24, u25, u26, u27, rfl, rfl, (fun h => by cases h), (fun h => by cases h), (fun h => by cases h), (fun h => by cases h), (fun h => by cases h), (fun h => by cases h), (fun h => by cases h), (fun h => by cases h), (fun h => by cases h), (fun h => by cases h), R5.out, R6.out, RB.out, RR.out, RW.out.drew⟩
        case hsz =>
          rintro ls a' W ⟨b0, b1, b2, b3, b4, b5, b6, b7, b8, b9, s19, s20, s21, s22, s23, s24, s25, s26, s27, rfl, _⟩
          rfl
        case hstep =>
          rintro ls a' W ⟨b0, b1, b2, b3, b4, b5, b6, b7, b8, b9, s19, s20, s21, s22, s23, s24, s25, s26, s27, rfl, rfl, h0, h1, h2, h3, h4, h5, h6, h7, h8, g90, gV, gK, gB, gR, gW⟩ i hi
          rw [Region.ready, List.mem_filter, List.mem_range] at hi
          obtain ⟨hlt, hp⟩ := hi
          have hi7 : i = 0 ∨ i = 1 ∨ i = 2 ∨ i = 3 ∨ i = 4 ∨ i = 5 ∨ i = 6 ∨ i = 7 ∨ i = 8 ∨ i = 9 := by simp at hlt; omega
          clear hlt
          rcases hi7 with rfl | rfl | rfl | rfl | rfl | rfl | rfl | rfl | rfl | rfl
          all_goals simp [Region.binds] at hp
          · have hn0 : b0 = false := by revert hp; cases b0 <;> simp
            clear hp
            subst hn0
            refine inv_op (o := ⟨some 19, _, _, _, _, _⟩) rfl (fun K' hK' => ?_)
            have hb9 : b9 = false := by cases b9 with | false => rfl | true => exact absurd (g90 rfl) (by simp)
            subst hb9
            rw [if_pos (by kernel_rfl)]
            refine wp_load_row 23 _ rfl g5 rfl 23 _ (0, 0) _ gV und8x32 rfl (info8x32.trans HV8.out.1) ?_
            exact hK'.out _ _ ⟨true, b1, b2, b3, b4, b5, b6, b7, b8, false, _, s20, s21, s22, s23, s24, s25, s26, s27, rfl, rfl, (fun _ => rfl), h1, h2, h3, h4, h5, h6, h7, h8, (fun h => by cases h), gV, gK, gB, gR, gW⟩
          · have hn1 : b1 = false := by revert hp; cases b1 <;> simp
            clear hp
            subst hn1
            refine inv_op (o := ⟨some 20, _, _, _, _, _⟩) rfl (fun K' hK' => ?_)
            go_simp
            exact hK'.out _ _ ⟨b0, true, b2, b3, b4, b5, b6, b7, b8, b9, s19, _, s21, s22, s23, s24, s25, s26, s27, rfl, rfl, h0, (fun _ => rfl), h2, h3, h4, h5, h6, h7, h8, g90, gV, gK, gB, gR, gW⟩
          · have hn2 : b2 = false := by revert hp; cases b2 <;> simp
            have e1 : b1 = true := by revert hp; cases b1 <;> simp
            clear hp
            obtain rfl := h1 e1
            subst hn2
            refine inv_op (o := ⟨some 21, _, _, _, _, _⟩) rfl (fun K' hK' => ?_)
            go_simp
            exact hK'.out _ _ ⟨b0, b1, true, b3, b4, b5, b6, b7, b8, b9, s19, _, _, s22, s23, s24, s25, s26, s27, rfl, rfl, h0, h1, (fun _ => rfl), h3, h4, h5, h6, h7, h8, g90, gV, gK, gB, gR, gW⟩
          · have hn3 : b3 = false := by revert hp; cases b3 <;> simp
            have e2 : b2 = true := by revert hp; cases b2 <;> simp
            clear hp
            obtain rfl := h2 e2
            subst hn3
            refine inv_op (o := ⟨some 22, _, _, _, _, _⟩) rfl (fun K' hK' => ?_)
            have hck := HKC.out W gW
            go_simp
            exact hK'.out _ _ ⟨b0, b1, b2, true, b4, b5, b6, b7, b8, b9, s19, s20, _, _, s23, s24, s25, s26, s27, rfl, rfl, h0, h1, h2, (fun _ => rfl), h4, h5, h6, h7, h8, g90, gV, gK, gB, gR, gW⟩
          · have hn4 : b4 = false := by revert hp; cases b4 <;> simp
            clear hp
            subst hn4
            refine inv_op (o := ⟨some 23, _, _, _, _, _⟩) rfl (fun K' hK' => ?_)
            go_simp
            exact hK'.out _ _ ⟨b0, b1, b2, b3, true, b5, b6, b7, b8, b9, s19, s20, s21, s22, _, s24, s25, s26, s27, rfl, rfl, h0, h1, h2, h3, (fun _ => rfl), h5, h6, h7, h8, g90, gV, gK, gB, gR, gW⟩
          · have hn5 : b5 = false := by revert hp; cases b5 <;> simp
            have e4 : b4 = true := by revert hp; cases b4 <;> simp
            clear hp
            obtain rfl := h4 e4
            subst hn5
            refine inv_op (o := ⟨some 24, _, _, _, _, _⟩) rfl (fun K' hK' => ?_)
            go_simp
            exact hK'.out _ _ ⟨b0, b1, b2, b3, b4, true, b6, b7, b8, b9, s19, s20, s21, s22, _, _, s25, s26, s27, rfl, rfl, h0, h1, h2, h3, h4, (fun _ => rfl), h6, h7, h8, g90, gV, gK, gB, gR, gW⟩
          · have hn6 : b6 = false := by revert hp; cases b6 <;> simp
            have e5 : b5 = true := by revert hp; cases b5 <;> simp
            clear hp
            obtain rfl := h5 e5
            subst hn6
            refine inv_op (o := ⟨some 25, _, _, _, _, _⟩) rfl (fun K' hK' => ?_)
            have hcx := HXC.out W gK
            go_simp
            exact hK'.out _ _ ⟨b0, b1, b2, b3, b4, b5, true, b7, b8, b9, s19, s20, s21, s22, s23, _, _, s26, s27, rfl, rfl, h0, h1, h2, h3, h4, h5, (fun _ => rfl), h7, h8, g90, gV, gK, gB, gR, gW⟩
          · have hn7 : b7 = false := by revert hp; cases b7 <;> simp
            have e3 : b3 = true := by revert hp; cases b3 <;> simp
            have e6 : b6 = true := by revert hp; cases b6 <;> simp
            clear hp
            obtain rfl := h3 e3
            obtain rfl := h6 e6
            subst hn7
            refine inv_op (o := ⟨some 26, _, _, _, _, _⟩) rfl (fun K' hK' => ?_)
            go_simp
            rw [HADD.out]
            exact hK'.out _ _ ⟨b0, b1, b2, b3, b4, b5, b6, true, b8, b9, s19, s20, s21, _, s23, s24, _, _, s27, rfl, rfl, h0, h1, h2, h3, h4, h5, h6, (fun _ => rfl), h8, g90, gV, gK, gB, gR, gW⟩
          · have hn8 : b8 = false := by revert hp; cases b8 <;> simp
            have e0 : b0 = true := by revert hp; cases b0 <;> simp
            have e7 : b7 = true := by revert hp; cases b7 <;> simp
            clear hp
            obtain rfl := h0 e0
            obtain rfl := h7 e7
            subst hn8
            refine inv_op (o := ⟨some 27, _, _, _, _, _⟩) rfl (fun K' hK' => ?_)
            go_simp
            refine (HRND.out W).mono ?_
            rintro e w1 ⟨rfl, hb1⟩
            have hs1 := hb1.size
            exact hK'.out _ _ ⟨b0, b1, b2, b3, b4, b5, b6, b7, true, b9, _, s20, s21, s22, s23, s24, s25, _, _, rfl, rfl, h0, h1, h2, h3, h4, h5, h6, h7, (fun _ => rfl), g90, ((hb1.block _ (Array.getElem?_eq_some_iff.1 gV).1).trans gV), ((hb1.block _ (Array.getElem?_eq_some_iff.1 gK).1).trans gK), ((hb1.block _ (Array.getElem?_eq_some_iff.1 gB).1).trans gB), ((hb1.block _ (Array.getElem?_eq_some_iff.1 gR).1).trans gR), (gW.trans (hb1.mono (by have h1 := (Array.getElem?_eq_some_iff.1 gB).1; omega)))⟩
          · have hn9 : b9 = false := by revert hp; cases b9 <;> simp
            have e8 : b8 = true := by revert hp; cases b8 <;> simp
            have e0 : b0 = true := by revert hp; cases b0 <;> simp
            clear hp
            obtain rfl := h8 e8
            subst hn9
            refine inv_op (o := ⟨none, _, _, _, _, _⟩) rfl (fun K' hK' => ?_)
            rw [if_pos (by kernel_rfl)]
            refine wp_store_row 23 _ _ rfl g5 (u32s v1).toArray rfl rfl 23 (u32s v).toArray gV (info8x32.trans HV8.out.2.1) ?_ (u32s_one _) ?_
            · exact HV8.out.2.2
            exact hK'.out _ _ ⟨b0, b1, b2, b3, b4, b5, b6, b7, b8, true, s19, s20, s21, s22, s23, s24, s25, s26, _, rfl, rfl, h0, h1, h2, h3, h4, h5, h6, h7, h8, (fun _ => e0), (setRow_heap _ _ _ _ _ _ gV), ((setRow_other _ _ _ _ (Ne.symm h56)).trans gK), ((setRow_other _ _ _ _ (by omega)).trans gB), ((setRow_other _ _ _ _ (by omega)).trans gR), (below_setRow gW (by omega) _)⟩
        case hdone =>
          rintro ls a' W ⟨b0, b1, b2, b3, b4, b5, b6, b7, b8, b9, s19, s20, s21, s22, s23, s24, s25, s26, s27, rfl, rfl, h0, h1, h2, h3, h4, h5, h6, h7, h8, g90, gV, gK, gB, gR, gW⟩ hall
          obtain rfl : b9 = true := hall 9 (by decide)
          rw [if_pos rfl, HVN.out] at gV
          have GV := Lib.hid gV
          have GK := Lib.hid gK
          have GB := Lib.hid gB
          have GR := Lib.hid gR
          have GW := Lib.hid gW
          clear h0 h1 h2 h3 h4 h5 h6 h7 h8 g90 gV gK gB gR gW hall
          dsimp only
          go_wp2_with fail
          go_roundw
          case rel => exact ⟨i + 1, by omega, by go_num, GV.out, GK.out, GB.out, GR.out, GW.out⟩
          case measure => simp [intOf]; omega
      · obtain rfl : i = 64 := by omega
        obtain ⟨v, hv⟩ : ∃ v, v = roundsTo h (wTo l 64) 64 := ⟨_, rfl⟩
        have hv8 : v.length = 8 := by rw [hv]; exact roundsTo_length _ _ h8 _
        rw [← hv] at R5
        have HT := Lib.hid (show turnOf h l = addAll v h by unfold turnOf; rw [if_pos HLN.out, hv])
        have HV8 := Lib.hid hv8
        have HH8 := Lib.hid h8
        have RB2 := Lib.hid (show wr.heap[B]? = some (.cells (u32s (addRow v h 0)).toArray 23 (0, 0)) by rw [addRow_zero, ← HH.out]; exact RB.out)
        clear hv hv8
        go_wp2_with fail
        obtain ⟨wo, hwo⟩ : ∃ wo, wo = wr := ⟨_, rfl⟩
        go_loopw [8, 29] (fun x8 c wr => ∃ j : Nat, j ≤ 8 ∧ c = .int .i64 j ∧ wr.heap[g5]? = some (.cells (u32s v).toArray 23 (0, 0)) ∧
          wr.heap[B]? = some (.cells (u32s (addRow v h j)).toArray 23 (0, 0)) ∧ wr.heap[B + 1]? = some (.cells zero8 23 (0, 0)) ∧ Below B w wr) (fun _ c _ => 8 - (intOf c).toNat)
        case atStart => exact ⟨0, by omega, rfl, R5.out, RB2.out, RR.out, RW.out⟩
        case round =>
          obtain ⟨j, hj, rfl, hs5, hsB, hsR, hsW⟩ := hrel
          have S5 := Lib.hid hs5
          have SB := Lib.hid hsB
          have SR := Lib.hid hsR
          have SW := Lib.hid hsW
          clear hs5 hsB hsR hsW R5 RB2 RR RW RB R6
          by_cases hjt : j < 8
          · obtain ⟨x, hx⟩ : ∃ x, x = h.getD j 0 := ⟨_, rfl⟩
            obtain ⟨y, hy⟩ : ∃ y, y = v.getD j 0 := ⟨_, rfl⟩
            have c1 : wr.cell? ⟨B, j, none⟩ = some (.int .u32 (x : Nat)) := by rw [hx]; exact row_at SB.out (addRow_at v h j HV8.out HH8.out hjt)
            have c2 : wr.cell? ⟨g5, j, none⟩ = some (.int .u32 (y : Nat)) := by rw [hy]; exact row_at S5.out (by have := HV8.out; simp [u32s, this, hjt])
            have f1 : wr.frozen? ⟨B, j, none⟩ = false := row_free SB.out
            have HX := Lib.hid (addRow_set v h j HV8.out HH8.out hjt)
            rw [← hx, ← hy] at HX
            clear hx hy
            go_wp2_with fail
            go_region
            go_wp2
            go_roundw
            case rel =>
              have hxy : ((x : Int) + (y : Int)) % 4294967296 = (((y + x) % 4294967296 : Nat) : Int) := by omega
              refine ⟨j + 1, by omega, by go_num, ?_, ?_, ?_, (SW.out.setCell (by simp) _).drew⟩
              · exact (heap_setCell_other wr _ _ _ (by simp; omega)).trans S5.out
              · rw [← HX.out, hxy]
                exact row_set SB.out _
              · exact (heap_setCell_other wr _ _ _ (by simp)).trans SR.out
            case measure => simp [intOf]; omega
          · obtain rfl : j = 8 := by omega
            have h8a := addAll_length v h HV8.out HH8.out
            have HA := Lib.hid (show (some 8 : Option Nat) = some (u32s (addAll v h)).toArray.size ∧ zero8.size = (u32s (addAll v h)).toArray.size from ⟨by simp [h8a], by simp [h8a]; rfl⟩)
            have sb := SB.out
            rw [addRow_all v h HV8.out HH8.out] at sb
            have SB2 := Lib.hid sb
            clear sb SB
            go_wp2_with (first | (refine wpList_load_row rfl 23 _ rfl B rfl 23 (u32s (addAll v h)).toArray (0, 0) _ SB2.out und8x32 rfl (info8x32.trans HA.out.1) ?_) | (refine wpList_store_row rfl 23 _ _ rfl (B + 1) (u32s (addAll v h)).toArray rfl rfl 23 zero8 SR.out (info8x32.trans HA.out.1) HA.out.2 (u32s_one _) ?_))
            refine bodyPost_ret (results_cell_row rfl _ _ (B + 1) 23 _ (0, 0) _ rfl (setRow_heap _ _ _ _ _ _ SR.out) und8x32 rfl (info8x32.trans HA.out.1)) rfl ⟨by rw [HT.out], ?_⟩
            rw [← HBw.out]
            exact below_setRow SW.out (by omega) _
end Go.Proofs.YtfaiblngchdpmaaDoor
