/- What the document's own Closed and Holds answer, for bytes of at most a million; what was there stays. -/
import Derived.Test.YtfkojcaefhknnaaCrcE
namespace Go.Proofs.Ytfkojcaefhknnaa
open Go.RowKit Go.Lib
set_option linter.unusedSimpArgs false

theorem ret_beq (a b : List UInt8) : Ending.returned (.bool (a == b)) = .returned (.bool (decide (a = b))) := by
  by_cases h : a = b
  · subst h; simp
  · rw [decide_eq_false h, beq_eq_false_iff_ne.2 h]
theorem le4_cells (s : Nat) (hs : s < 4294967296) : byteCells (leB s 4) = [.int .u8 ((s : Int) % 256), .int .u8 ((s : Int) / 256 % 256), .int .u8 ((s : Int) / 65536 % 256), .int .u8 ((s : Int) / 16777216)] := by
  have h : leB s 4 = [UInt8.ofNat (s / 256 ^ 0), UInt8.ofNat (s / 256 ^ 1), UInt8.ofNat (s / 256 ^ 2), UInt8.ofNat (s / 256 ^ 3)] := rfl
  rw [h]
  simp only [byteCells, List.map_cons, List.map_nil, byteOf]
  have h3 : s / 256 ^ 3 % 256 = s / 16777216 := by
    rw [show (256 : Nat) ^ 3 = 16777216 from rfl]; omega
  rw [h3, show (256 : Nat) ^ 0 = 1 from rfl, show (256 : Nat) ^ 1 = 256 from rfl, show (256 : Nat) ^ 2 = 65536 from rfl, Nat.div_one]
  rfl

set_option maxHeartbeats 1000000 in
theorem refClosed_any (v : Value) (l : List UInt8) (w : World) (hv : IsArg w v l) (hlen : l.length ≤ 1000000) :
    Calls Try.prog 15 #[v] w fun e w' => ∃ u, e = .returned u ∧ w'.ownsRow w.heap.size 5 1 u (l.length + 4) (byteCells (crcClosed l)) ∧ Below w.heap.size w w' := by
  obtain ⟨i0, hi, hz0, hz1, hz2⟩ := info_parts info8
  obtain ⟨s, hs⟩ : ∃ s, s = crcOf l := ⟨_, rfl⟩
  have hsl : s < 4294967296 := by rw [hs]; exact crcOf_lt l
  have hof := refOf_any v l w hv.1
  rw [← hs] at hof
  have hown0 : (w.alloc (.cells #[] 5)).ownsRow w.heap.size 5 1 (.slice (some ⟨w.heap.size, 0, none⟩) 0 0) 0 [] :=
    World.ownsRow_made w #[] 0 (Nat.le_refl _) (by decide) rfl
  have hV := (hv.below (w' := w.alloc (.cells #[] 5)) ((Below.refl _ _).alloc (Nat.le_refl _) _)).2
  have HV := Lib.hid hV
  obtain ⟨a, c, rfl⟩ := hv.1.shape
  have HO := Lib.hid hof
  have HS := Lib.hid hs
  clear hof hs hv hV
  go_enter Try.func15, Try.ntmps15
  go_wp2_with fail
  refine HO.out.mono ?_
  rintro e w' ⟨rfl, rfl⟩
  go_wp2_with (at_builtin; refine wpList_append_isArg _ rfl (.tmp 6) (.tmp 7) 22 rfl w.heap.size 5 i0 (.int .u8 0) Try.underlying22 hi hz0 hz1 hz2 rfl _ _ _ rfl hown0 _ l rfl ?c1 ?c2 ?c3 ?_)
  case c1 => exact HV.out
  case c2 => omega
  case c3 => simp
  intro v1 w1 hown1 hgrow1
  have hB1 : Below w.heap.size w w1 := ((Below.refl _ _).alloc (Nat.le_refl _) _).grown hgrow1 (by simp) (fun k hk => (hown0.lt k hk).1)
  have hsz1 := hB1.size
  clear hgrow1 hown0
  go_wp2_with (at_builtin; refine wpList_append_own _ rfl (.tmp 8) (.tmp 23) 22 rfl w.heap.size 5 i0 (.int .u8 0) 1 1 Try.underlying22 hi hz0 hz1 hz2 rfl (by decide) _ _ _ rfl (hown1.alloc _) ⟨w1.heap.size, 0, none⟩ 4 4 [.int .u8 ((s : Int) % 256), .int .u8 ((s : Int) / 256 % 256), .int .u8 ((s : Int) / 65536 % 256), .int .u8 ((s : Int) / 16777216)] rfl rfl ?d1 ?d2 ?d3 ?d4 ?d5 ?_)
  case d1 => exact fun j u hu => cell_new w1 _ _ j u hu
  case d2 => intro u hu; simp at hu; rcases hu with rfl | rfl | rfl | rfl <;> rfl
  case d3 => unfold maxLen; omega
  case d4 => omega
  case d5 => simp; omega
  intro v2 w2 hown2 hgrow2 _
  go_wp2
  go_ret
  refine ⟨v2, rfl, ?_, (hB1.alloc hsz1 _).grown hgrow2 (by simp; omega) (fun k hk => (hown1.lt k hk).1)⟩
  unfold crcClosed
  rw [byteCells_append, ← HS.out, le4_cells s hsl]
  exact hown2

theorem closed_iff (l : List UInt8) (m : Nat) (hm : l.length = m + 4) : crcHolds l = decide (crcClosed (l.take m) = l) := by
  rw [holds_iff l m hm]
  unfold crcClosed
  apply decide_eq_decide.2
  constructor
  · intro h; rw [← h, List.take_append_drop]
  · intro h
    have h2 : l.take m ++ leB (crcOf (l.take m)) 4 = l.take m ++ l.drop m := by rw [List.take_append_drop]; exact h
    exact (List.append_cancel_left h2).symm

set_option maxHeartbeats 2000000 in
theorem refHolds_any (v : Value) (l : List UInt8) (w : World) (hv : IsArg w v l) (hlen : l.length ≤ 1000000) :
    Calls Try.prog 16 #[v] w fun e w' => e = .returned (.bool (crcHolds l)) ∧ Below w.heap.size w w' := by
  by_cases h4 : l.length < 4
  · obtain ⟨a, c, rfl⟩ := hv.1.shape
    rw [holds_short l h4]
    have hneg : (decide (4 ≤ (l.length : Int))) = false := by rw [decide_eq_false_iff_not]; omega
    clear hv
    go_enter Try.func16, Try.ntmps16
    go_wp2_with fail
    go_quiet (fail)
    go_wp2
    go_ret
    exact ⟨rfl, below_drewN (Below.refl _ _) _⟩
  · have hcv0 := conv_bytes (hv.1.below (w' := w.drew) (Below.refl _ _).drew)
    obtain ⟨m, hm⟩ : ∃ m, l.length = m + 4 := ⟨l.length - 4, by omega⟩
    obtain ⟨a, c, hT, hle, rfl⟩ : ∃ a c, IsArg w (.slice a m c) (l.take m) ∧ l.length ≤ c ∧ v = .slice a l.length c := by
      rcases hv.2 with ⟨_, h0⟩ | ⟨ad, c, h1, h2⟩
      · rw [h0] at h4; simp at h4
      · rcases hv.1 with ⟨_, _, _, h0⟩ | ⟨b, off, cap, h3, hc1, hc2, hb, hcell⟩
        · rw [h0] at h4; simp at h4
        · subst h3
          cases h1
          have hl : (l.take m).length = m := by simp; omega
          refine ⟨_, c, ⟨.inr ⟨b, off, c, by rw [hl], by omega, hc2, hb, fun i hi => ?_⟩, .inr ⟨⟨b, off, none⟩, c, by rw [hl], fun j u hu => ?_⟩⟩, hc1, rfl⟩
          · rw [hl] at hi
            rw [hcell i (by omega)]
            simp [hi]
          · have hj : j < (l.take m).length := by have := (List.getElem?_eq_some_iff.1 hu).1; rwa [byteCells_length] at this
            refine h2 j u ?_
            rw [← hu]
            rw [hl] at hj
            simp [byteCells, hj]
    have hs2 : ∀ W, (Instr.slice 22 (.slice a (m + 4) c) none (some (.int .i64 m)) none).run Try.prog W = .ok (.slice a m c) W := fun W => slice_to _ _ _ _ (by omega) W
    have hH := closed_iff l m hm
    have hvb := hv.1
    rw [hm] at hvb hcv0
    rw [hm, hH]
    have HT := Lib.hid hT
    have HV := Lib.hid hvb
    have HM := Lib.hid hm
    have hm63 : (m : Int) + 4 ≤ 9223372036854775807 := by omega
    have hge : decide (4 ≤ (m : Int) + 4) = true := by rw [decide_eq_true_iff]; omega
    have hsub : IntKind.i64.wrap ((m : Int) + 4 - 4) = (m : Int) := by rw [IntWalk.i64_in _ (by omega)]; omega
    have hsub2 : IntKind.i64.wrap (m : Int) = (m : Int) := IntWalk.i64_in _ (by omega)
    have hml : (l.take m).length ≤ 1000000 := by simp; omega
    have hlm : (l.take m).length = m := by simp; omega
    have HLM := Lib.hid hlm
    obtain ⟨K, hK⟩ : ∃ K, K = crcClosed (l.take m) := ⟨_, rfl⟩
    rw [← hK]
    have hcl : ∀ W, Below w.heap.size w W → Calls Try.prog 15 #[.slice a m c] W fun e w' => ∃ u, e = .returned u ∧ IsBytes w' u K ∧ Below W.heap.size W w' := fun W hW =>
      (refClosed_any _ (l.take m) W (HT.out.below hW) hml).mono fun e w' ⟨u, he, ho, hb⟩ => ⟨u, he, isBytes_of_owns (by rw [hK, closed_length, HLM.out]; rw [HLM.out] at ho; exact ho), hb⟩
    have HCL := Lib.hid hcl
    clear hT hm hH hv hlm hvb h4 hK hcl
    go_enter Try.func16, Try.ntmps16
    go_wp2_with fail
    refine wp_region_held_drew (S := fun W => (convert 22 9 (.slice a (m + 4) c)).run Try.prog W = .ok (.string ⟨l.toArray⟩) W) (by kernel_rfl) hcv0 (fun hHeld => ?_)
    refine wpAnyH_take (i := 0) (oi := ⟨some 3, _, _, _, _, _⟩) (v := ?_) rfl (by kernel_rfl) (by kernel_rfl) (by kernel_rfl) (fun _ _ _ h => h) (Or.inl ⟨by kernel_rfl, ?_⟩) (by assumption) ?_
    case refine_2 => (intro W hSw; (try dsimp only at hSw); go_simp; try with_reducible rfl)
    try simp only [Act.put, List.setIfInBounds_toArray, List.set_cons_zero, List.set_cons_succ]
    refine wpAnyH_take (i := 1) (oi := ⟨some 4, _, _, _, _, _⟩) (v := ?_) rfl (by kernel_rfl) (by kernel_rfl) (by kernel_rfl) (fun _ _ _ h => h) (Or.inl ⟨by kernel_rfl, ?_⟩) (by assumption) ?_
    case refine_2 => (intro W hSw; (try dsimp only at hSw); go_simp; try with_reducible rfl)
    try simp only [Act.put, List.setIfInBounds_toArray, List.set_cons_zero, List.set_cons_succ]
    refine wpAnyH_take (i := 2) (oi := ⟨some 5, _, _, _, _, _⟩) (v := ?_) rfl (by kernel_rfl) (by kernel_rfl) (by kernel_rfl) (fun _ _ _ h => h) (Or.inl ⟨by kernel_rfl, ?_⟩) (by assumption) ?_
    case refine_2 => (intro W hSw; (try dsimp only at hSw); go_simp; try with_reducible rfl)
    try simp only [Act.put, List.setIfInBounds_toArray, List.set_cons_zero, List.set_cons_succ]
    refine wpAnyH_take (i := 3) (oi := ⟨some 6, _, _, _, _, _⟩) (v := ?_) rfl (by kernel_rfl) (by kernel_rfl) (by kernel_rfl) (fun _ _ _ h => h) (Or.inl ⟨by kernel_rfl, ?_⟩) (by assumption) ?_
    case refine_2 => (intro W hSw; (try dsimp only at hSw); go_simp; try with_reducible rfl)
    try simp only [Act.put, List.setIfInBounds_toArray, List.set_cons_zero, List.set_cons_succ]
    refine wpAnyH_take (i := 4) (oi := ⟨some 7, _, _, _, _, _⟩) (v := ?_) rfl (by kernel_rfl) (by kernel_rfl) (by kernel_rfl) (fun _ _ _ h => h) (Or.inl ⟨by kernel_rfl, ?_⟩) (by assumption) ?_
    case refine_2 => (intro W hSw; (try dsimp only at hSw); go_simp; try with_reducible rfl)
    try simp only [Act.put, List.setIfInBounds_toArray, List.set_cons_zero, List.set_cons_succ]
    refine wpAnyH_take (i := 5) (oi := ⟨some 8, _, _, _, _, _⟩) (v := ?_) rfl (by kernel_rfl) (by kernel_rfl) (by kernel_rfl) (fun _ _ _ h => h) (Or.inl ⟨by kernel_rfl, ?_⟩) (by assumption) ?_
    case refine_2 => (intro W hSw; (try dsimp only at hSw); go_simp; try with_reducible rfl)
    try simp only [Act.put, List.setIfInBounds_toArray, List.set_cons_zero, List.set_cons_succ]
    refine wpAnyH_take (i := 6) (oi := ⟨some 9, _, _, _, _, _⟩) (v := ?_) rfl (by kernel_rfl) (by kernel_rfl) (by kernel_rfl) (fun _ _ _ h => h) (Or.inl ⟨by kernel_rfl, ?_⟩) (by assumption) ?_
    case refine_2 => (intro W hSw; (try dsimp only at hSw); go_simp; try with_reducible rfl)
    try simp only [Act.put, List.setIfInBounds_toArray, List.set_cons_zero, List.set_cons_succ]
    refine wpAnyH_take (i := 7) (oi := ⟨some 10, _, _, _, _, _⟩) (v := ?_) rfl (by kernel_rfl) (by kernel_rfl) (by kernel_rfl) (fun _ _ _ h => h) (Or.inl ⟨by kernel_rfl, ?_⟩) (by assumption) ?_
    case refine_2 => (intro W hSw; (try dsimp only at hSw); go_simp; try with_reducible rfl)
    try simp only [Act.put, List.setIfInBounds_toArray, List.set_cons_zero, List.set_cons_succ]
    refine wpAnyH_take (i := 8) (oi := ⟨some 11, _, _, _, _, _⟩) (v := ?_) rfl (by kernel_rfl) (by kernel_rfl) (by kernel_rfl) (fun _ _ _ h => h) (Or.inl ⟨by kernel_rfl, ?_⟩) (by assumption) ?_
    case refine_2 => (intro W hSw; (try dsimp only at hSw); go_simp; try with_reducible rfl)
    try simp only [Act.put, List.setIfInBounds_toArray, List.set_cons_zero, List.set_cons_succ]
    refine wpAnyH_take (i := 11) (oi := ⟨some 14, _, _, _, _, _⟩) (v := ?_) rfl (by kernel_rfl) (by kernel_rfl) (by kernel_rfl) (fun _ _ _ h => h) (Or.inl ⟨by kernel_rfl, ?_⟩) (by assumption) ?_
    case refine_2 => (intro W hSw; (try dsimp only at hSw); go_simp; try with_reducible rfl)
    try simp only [Act.put, List.setIfInBounds_toArray, List.set_cons_zero, List.set_cons_succ]
    refine wpAnyH_take (i := 12) (oi := ⟨some 15, _, _, _, _, _⟩) (v := ?_) rfl (by kernel_rfl) (by kernel_rfl) (by kernel_rfl) (fun _ _ _ h => h) (Or.inl ⟨by kernel_rfl, ?_⟩) (by assumption) ?_
    case refine_2 => (intro W hSw; (try dsimp only at hSw); go_simp; try with_reducible rfl)
    try simp only [Act.put, List.setIfInBounds_toArray, List.set_cons_zero, List.set_cons_succ]
    refine wpAnyH_ready (rs := [9]) (by kernel_rfl) (by simp) ?_
    refine AllReadyH.cons (o := ⟨some 12, _, _, _, _, _⟩) rfl (fun K1 hK1 => ?_) AllReadyH.nil
    go_simp
    refine (HCL.out _ (by first | exact Below.refl _ _ | exact (Below.refl _ _).drew)).mono ?_
    rintro e w1 ⟨u, rfl, hu, hb1⟩
    have hcu := conv_bytes hu
    have hcv1 := conv_bytes (HV.out.below (show Below w.heap.size w w1 from ((Below.refl _ _).drew).trans hb1))
    go_wp2_with fail
    refine hK1.out _ _ hcv1 (fun hHeld1 => ?_)
    clear hK1 K1 hHeld hcv0
    try simp only [Act.put, List.setIfInBounds_toArray, List.set_cons_zero, List.set_cons_succ]
    refine wpAnyH_ready (rs := [10]) (by kernel_rfl) (by simp) ?_
    refine AllReadyH.cons (o := ⟨some 13, _, _, _, _, _⟩) rfl (fun K2 hK2 => ?_) AllReadyH.nil
    go_simp
    refine hK2.out _ _ hcv1 (fun hHeld2 => ?_)
    clear hK2 K2 hHeld1 hHeld2
    try simp only [Act.put, List.setIfInBounds_toArray, List.set_cons_zero, List.set_cons_succ]
    refine wpAnyH_take (i := 13) (oi := ⟨some 16, _, _, _, _, _⟩) (v := ?_) rfl (by kernel_rfl) (by kernel_rfl) (by kernel_rfl) (fun _ _ _ h => h) (Or.inl ⟨by kernel_rfl, ?_⟩) (by assumption) ?_
    case refine_2 => (intro W hSw; (try dsimp only at hSw); go_simp; try with_reducible rfl)
    try simp only [Act.put, List.setIfInBounds_toArray, List.set_cons_zero, List.set_cons_succ]
    refine wpAnyH_take (i := 14) (oi := ⟨some 17, _, _, _, _, _⟩) (v := ?_) rfl (by kernel_rfl) (by kernel_rfl) (by kernel_rfl) (fun _ _ _ h => h) (Or.inl ⟨by kernel_rfl, ?_⟩) (by assumption) ?_
    case refine_2 => (intro W hSw; (try dsimp only at hSw); go_simp; try with_reducible rfl)
    try simp only [Act.put, List.setIfInBounds_toArray, List.set_cons_zero, List.set_cons_succ]
    refine wpAnyH_take (i := 15) (oi := ⟨some 2, _, _, _, _, _⟩) (v := ?_) rfl (by kernel_rfl) (by kernel_rfl) (by kernel_rfl) (fun _ _ _ h => h) (Or.inl ⟨by kernel_rfl, ?_⟩) (by assumption) ?_
    case refine_2 => (intro W hSw; (try dsimp only at hSw); go_simp; try with_reducible rfl)
    try simp only [Act.put, List.setIfInBounds_toArray, List.set_cons_zero, List.set_cons_succ]
    refine wpAnyH_done (by kernel_rfl) ?_ _
    go_wp2
    go_ret
    exact ⟨ret_beq K l, ((Below.refl _ _).drew).trans hb1⟩
end Go.Proofs.Ytfkojcaefhknnaa
