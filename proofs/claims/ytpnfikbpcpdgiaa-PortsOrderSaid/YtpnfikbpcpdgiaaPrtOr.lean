/- The law PortsOrder returns true for every input. -/
import Derived.Test.YtpnfikbpcpdgiaaPrtK
import Derived.Test.YtpnfikbpcpdgiaaPrtH
import Derived.Test.YtpnfikbpcpdgiaaWords
import Derived.Test.YtpnfikbpcpdgiaaOpenP
namespace Go.Proofs.Ytpnfikbpcpdgiaa
open Go.RowKit Go.Lib

set_option maxHeartbeats 4000000 in
set_option maxRecDepth 100000 in
theorem portsOrder_out (w : World) (v : Value) (lb : List UInt8) (hv : IsArg w v lb) (z : Int) (hz : -9223372036854775808 ≤ z ∧ z ≤ 9223372036854775807) (tv : Value) (lt : List Nat) (ht : IsWords w tv lt) (h : 40 < lb.length ∨ (lb.length ≤ 40 ∧ z < 1) ∨ (lb.length ≤ 40 ∧ 1 ≤ z ∧ 60 < lt.length)) :
    Calls Try.prog 5 #[v, .int .i64 z, tv] w fun e w' => e = .returned (.bool true) ∧ Below w.heap.size w w' := by
  have BW := Lib.hid (Below.refl w.heap.size w)
  have HV := Lib.hid hv
  have HT := Lib.hid ht
  obtain ⟨va, vc, rfl, hvc⟩ := hv.shapeC
  obtain ⟨kb, hkb⟩ : ∃ n, n = lb.length := ⟨_, rfl⟩
  obtain ⟨ta, kt, tc, rfl, hkt, htm⟩ := ht.shape
  rw [← hkb] at hvc HV h
  rw [← hkt] at h
  rw [← hkb]
  have HKB := Lib.hid hkb.symm
  have HKT := Lib.hid hkt.symm
  have hbm : kb ≤ maxLen := by rw [hkb]; exact arg_len hv
  unfold maxLen at hbm htm
  clear hv ht hkb hkt
  rcases h with h1 | ⟨h1, h2⟩ | ⟨h1, h2, h3⟩
  · have d1 : decide ((40 : Int) < (kb : Nat)) = true := decide_eq_true (by omega)
    go_enter Try.func5, Try.ntmps5
    go_wp2_with fail
    refine (heads_any _).mono ?_
    rintro e w1 ⟨rfl, hb⟩
    replace BW := Lib.hid (BW.out.trans (hb.mono BW.out.size))
    clear hb
    go_wp2
    go_ret
    exact ⟨rfl, BW.out⟩
  · have d1 : decide ((40 : Int) < (kb : Nat)) = false := decide_eq_false (by omega)
    have d2 : decide (z < 1) = true := decide_eq_true h2
    go_enter Try.func5, Try.ntmps5
    go_wp2_with fail
    refine (heads_any _).mono ?_
    rintro e w1 ⟨rfl, hb⟩
    replace BW := Lib.hid (BW.out.trans (hb.mono BW.out.size))
    clear hb
    go_wp2
    go_ret
    exact ⟨rfl, BW.out⟩
  · have d1 : decide ((40 : Int) < (kb : Nat)) = false := decide_eq_false (by omega)
    have d2 : decide (z < 1) = false := decide_eq_false (by omega)
    have d3 : decide ((60 : Int) < (kt : Nat)) = true := decide_eq_true (by omega)
    go_enter Try.func5, Try.ntmps5
    go_wp2_with fail
    refine (heads_any _).mono ?_
    rintro e w1 ⟨rfl, hb⟩
    replace BW := Lib.hid (BW.out.trans (hb.mono BW.out.size))
    clear hb
    go_wp2
    go_ret
    exact ⟨rfl, BW.out⟩

structure OrderA where
  b0 : Bool
  b1 : Bool
  b2 : Bool
  b3 : Bool
  b4 : Bool
  b5 : Bool
  b6 : Bool
  b7 : Bool
  b8 : Bool
  b9 : Bool
  b10 : Bool
  b11 : Bool
  b12 : Bool
  s38 : Value
  s39 : Value
  s40 : Value
  s41 : Value
  s42 : Value
  s43 : Value
  s44 : Value
  s37 : Value
  s45 : Value
  s46 : Value
  s10 : Value
  s11 : Value
structure OrderB where
  b0 : Bool
  b1 : Bool
  b2 : Bool
  b3 : Bool
  b4 : Bool
  b5 : Bool
  s66 : Value
  s67 : Value
  s68 : Value
  s69 : Value
  s8 : Value
structure OrderC where
  b0 : Bool
  b1 : Bool
  b2 : Bool
  b3 : Bool
  b4 : Bool
  b5 : Bool
  b6 : Bool
  b7 : Bool
  b8 : Bool
  b9 : Bool
  b10 : Bool
  b11 : Bool
  s77 : Value
  s78 : Value
  s79 : Value
  s80 : Value
  s81 : Value
  s82 : Value
  s76 : Value
  s83 : Value
  s84 : Value
  s16 : Value
  s17 : Value
set_option maxHeartbeats 8000000 in
set_option maxRecDepth 100000 in
theorem portsOrder_in (w : World) (v : Value) (lb : List UInt8) (hv : IsArg w v lb) (z : Int) (hz : -9223372036854775808 ≤ z ∧ z ≤ 9223372036854775807) (tv : Value) (lt : List Nat) (ht : IsWords w tv lt) (h : lb.length ≤ 40 ∧ 1 ≤ z ∧ lt.length ≤ 60) :
    Calls Try.prog 5 #[v, .int .i64 z, tv] w fun e w' => e = .returned (.bool true) ∧ Below w.heap.size w w' := by
  have BW := Lib.hid (Below.refl w.heap.size w)
  have HV := Lib.hid hv
  have HT := Lib.hid ht
  obtain ⟨va, vc, rfl, hvc⟩ := hv.shapeC
  obtain ⟨kb, hkb⟩ : ∃ n, n = lb.length := ⟨_, rfl⟩
  obtain ⟨ta, kt, tc, rfl, hkt, htm⟩ := ht.shape
  rw [← hkb] at hvc HV h
  rw [← hkt] at h
  rw [← hkb]
  have HKB := Lib.hid hkb.symm
  have HKT := Lib.hid hkt.symm
  have hbm : kb ≤ maxLen := by rw [hkb]; exact arg_len hv
  unfold maxLen at hbm htm
  clear hv ht hkb hkt
  obtain ⟨h40, h1, h60⟩ := h
  obtain ⟨zn, rfl⟩ := Int.eq_ofNat_of_zero_le (show 0 ≤ z by omega)
  have hzn : 1 ≤ zn := by omega
  have d1 : decide ((40 : Int) < (kb : Nat)) = false := decide_eq_false (by omega)
  have d2 : decide ((zn : Int) < 1) = false := decide_eq_false (by omega)
  have d3 : decide ((60 : Int) < (kt : Nat)) = false := decide_eq_false (by omega)
  obtain ⟨x0, hx0⟩ : ∃ x : Nat, x = 0 := ⟨_, rfl⟩
  have HX0 := Lib.hid hx0
  clear h1 hx0
  go_enter Try.func5, Try.ntmps5
  go_wp2
  clear d1 d2 d3
  have hpb := heap_alloc_new w (.cells #[.int .u32 0, .int .u32 0, .int .u64 0, .slice none 0 0] 26)
  have HPB := Lib.hid (show (w.alloc (.cells #[.int .u32 0, .int .u32 0, .int .u64 0, .slice none 0 0] 26)).heap[w.heap.size]? = some (.cells #[.int .u32 (x0 : Nat), .int .u32 (x0 : Nat), .int .u64 (x0 : Nat), .slice none 0 0] 26 (0, 0)) by rw [hpb, HX0.out]; rfl)
  have HB0 := Lib.hid ((Below.refl w.heap.size w).alloc (Nat.le_refl _) (.cells #[.int .u32 0, .int .u32 0, .int .u64 0, .slice none 0 0] 26))
  clear hpb
  go_loopw [8, 9] (fun u x wr => ∃ (i pk : Nat) (pa : Option Addr) (pc : Nat) (o l : List UInt8), x = .int .i64 i ∧ i ≤ kb ∧ wr.heap[w.heap.size]? = some (.cells #[.int .u32 (x0 : Nat), .int .u32 (x0 : Nat), .int .u64 (x0 : Nat), .slice pa pk pc] 26 (0, 0)) ∧ wr.ownsRow w.heap.size 5 1 (.slice pa pk pc) pk (byteCells l) ∧ l.length = pk ∧ wr.ownsRow w.heap.size 5 1 u o.length (byteCells o) ∧ o ++ l = lb.take i ∧ Below w.heap.size w wr) (fun _ x _ => kb - (intOf x).toNat)
  case atStart => exact ⟨0, 0, none, 0, [], [], rfl, Nat.zero_le _, HPB.out, World.ownsRow_nil _ _ _ _, rfl, World.ownsRow_nil _ _ _ _, rfl, HB0.out⟩
  case round =>
    obtain ⟨i, pk, pa, pc, o, l, rfl, hi, hrp, hpl, hpk, hou, hol, hbw⟩ := hrel
    have BWi := Lib.hid hbw
    have HSW := Lib.hid hbw.size
    have Rp := Lib.hid hrp
    have hrp0 := Lib.hid hrp
    have OP := Lib.hid hpl
    have HPK := Lib.hid hpk
    have OU := Lib.hid hou
    have HOL := Lib.hid hol
    have HVi := Lib.hid (HV.out.below hbw)
    clear hrp hpl hpk hou hol hbw
    by_cases hlt : i < kb
    · obtain ⟨m, hm⟩ : ∃ m, m = i + 1 := ⟨_, rfl⟩
      have hmi : (i : Int) + 1 = (m : Int) := by omega
      have hmk : m ≤ kb := by omega
      have s1 := cut_lh va kb vc i m (by omega) (by omega)
      obtain ⟨q1, hq1⟩ : ∃ q, q = (lb.drop i).take 1 := ⟨_, rfl⟩
      have hx1 : IsArg wr (sliced va i m vc 1) q1 := by
        have h := HVi.out.part i m vc (by omega) (by rw [HKB.out]; exact hmk) (by omega) (Nat.le_refl _)
        rw [show m - i = 1 by omega, ← hq1] at h
        exact h
      obtain ⟨xa, xn, xc, hxe⟩ : ∃ x y z, sliced va i m vc 1 = .slice x y z := ⟨_, _, _, rfl⟩
      rw [hxe] at s1 hx1
      have HX1 := Lib.hid hx1
      have HQ1 := Lib.hid hq1
      have hql : q1.length = 1 := by rw [hq1, List.length_take, List.length_drop, HKB.out]; omega
      have HQL := Lib.hid hql
      have hpk40 : pk ≤ i := by
        have h := congrArg List.length HOL.out
        rw [List.length_append, HPK.out, List.length_take] at h
        omega
      have HM := Lib.hid hm
      obtain ⟨l2, hl2⟩ : ∃ l2, l2 = l ++ q1 := ⟨_, rfl⟩
      have HL2 := Lib.hid hl2
      have hcz : chkP x0 pk = true := chkP_true.2 ⟨by rw [HX0.out]; omega, by omega⟩
      have hff : fillP x0 l.length q1.length = 0 := by rw [HPK.out, hql, fillP, if_pos hcz, if_pos (by omega)]
      have HFF := Lib.hid hff
      have HFL := Lib.hid (show fillL x0 l q1 = l2 by rw [hl2]; exact fillL_zero hff)
      have HK2 := Lib.hid (show l2.length = pk + 1 by rw [hl2, List.length_append, hql, HPK.out])
      have HLL := Lib.hid (show l.length ≤ 140737488355328 by rw [HPK.out]; omega)
      have HQQ := Lib.hid (show q1.length ≤ 140737488355328 by rw [hql]; omega)
      have HOL2 := Lib.hid (show o ++ l2 = lb.take m by
        rw [hl2, ← List.append_assoc, HOL.out, hm, hq1, List.take_add])
      obtain ⟨pk2, hpk2⟩ : ∃ k, k = pk + 1 := ⟨_, rfl⟩
      rw [← hpk2] at HK2
      have hpk2l : pk2 ≤ 40 := by omega
      have hwm : IntKind.i64.wrap ((m : Nat) : Int) = ((m : Nat) : Int) := IntWalk.i64_in _ (by omega)
      have HPK2 := Lib.hid hpk2
      have HLD := Lib.hid (show ∀ W, Below wr.heap.size wr W → Four W w.heap.size (.int .u32 (x0 : Nat)) (.int .u32 (x0 : Nat)) (.int .u64 (x0 : Nat)) (.slice pa pk pc) from fun W h => four (row_keep Rp.out h))
      have HFC := Lib.hid (show ∀ W, Below wr.heap.size wr W → Calls Try.prog 18 #[.agg #[.int .u32 (x0 : Nat), .int .u32 (x0 : Nat), .int .u64 (x0 : Nat), .slice pa pk pc], .slice xa xn xc] W (OwnA wr.heap.size W x0 x0 x0 pk2 l2 0) from fun W h => fill_own x0 x0 x0 l HLL.out q1 HQQ.out 0 HFF.out l2 HFL.out pk2 HK2.out _ W h.size _ ((isArg_of_owns (by rw [HPK.out]; exact OP.out)).below h) _ (HX1.out.below h))
      clear hx1 hq1 hm hl2 hff hcz hxe hql hpk2
      go_wp2_with fail
      refine wp_region_rec (X := OrderA) (by kernel_rfl) (by kernel_rfl) (fun x => #[x.b0, x.b1, x.b2, x.b3, x.b4, x.b5, x.b6, x.b7, x.b8, x.b9, x.b10, x.b11, x.b12]) (fun x => { tmps := List.toArray ((Value.slice va kb vc) :: (Value.int IntKind.i64 ↑zn) :: (Value.slice ta kt tc) :: undef :: undef :: undef :: u6 :: (Value.pointer (some ⟨w.heap.size, 0, none⟩)) :: u8 :: (Value.int IntKind.i64 ↑i) :: x.s10 :: x.s11 :: u12 :: u13 :: u14 :: undef :: undef :: undef :: (Value.slice va kb vc) :: (Value.int IntKind.i64 ↑kb) :: (Value.bool false) :: (Value.bool false) :: (Value.int IntKind.i64 ↑zn) :: (Value.bool false) :: (Value.bool false) :: (Value.bool false) :: (Value.slice ta kt tc) :: (Value.int IntKind.i64 ↑kt) :: (Value.bool false) :: (Value.bool false) :: undef :: (Value.int IntKind.i64 ↑i) :: (Value.slice va kb vc) :: (Value.int IntKind.i64 ↑kb) :: (Value.bool true) :: u35 :: u36 :: x.s37 :: x.s38 :: x.s39 :: x.s40 :: x.s41 :: x.s42 :: x.s43 :: x.s44 :: x.s45 :: x.s46 :: u47 :: u48 :: u49 :: u50 :: u51 :: u52 :: u53 :: u54 :: u55 :: u56 :: u57 :: u58 :: u59 :: u60 :: u61 :: u62 :: u63 :: u64 :: u65 :: u66 :: u67 :: u68 :: u69 :: undef :: undef :: undef :: undef :: undef :: undef :: undef :: undef :: undef :: undef :: undef :: undef :: undef :: undef :: undef :: undef :: undef :: undef :: undef :: undef :: undef :: undef :: undef :: undef :: undef :: undef :: undef :: undef :: undef :: undef :: undef :: undef :: undef :: undef :: undef :: undef :: undef :: undef :: undef :: undef :: undef :: undef :: undef :: undef :: undef :: undef :: undef :: undef :: undef :: []), defers := [] }) (fun x W => (x.b0 = true → x.s38 = .agg #[.int .u32 (x0 : Nat), .int .u32 (x0 : Nat), .int .u64 (x0 : Nat), .slice pa pk pc]) ∧ (x.b1 = true → x.s39 = .slice va kb vc) ∧ (x.b2 = true → x.s40 = .int .i64 (i : Nat)) ∧ (x.b3 = true → x.s41 = .int .i64 (i : Nat)) ∧ (x.b4 = true → x.s42 = .int .i64 (m : Nat)) ∧ (x.b5 = true → x.s43 = .slice xa xn xc) ∧ (x.b7 = true → x.s37 = x.s44) ∧ (x.b9 = true → x.s46 = .int .i64 0) ∧ (x.b12 = true → x.s11 = .int .i64 0) ∧ (PSt wr x0 x0 x0 pk2 l2 0 x.b6 x.b7 x.b8 x.b10 x.b11 x.s44 x.s45 x.s10 W)) ⟨false, false, false, false, false, false, false, false, false, false, false, false, false, u38, u39, u40, u41, u42, u43, u44, u37, u45, u46, u10, u11⟩ rfl rfl ⟨(fun h => by cases h), (fun h => by cases h), (fun h => by cases h), (fun h => by cases h), (fun h => by cases h), (fun h => by cases h), (fun h => by cases h), (fun h => by cases h), (fun h => by cases h), (PSt.start (Below.refl _ _).drew)⟩ (fun _ => rfl) ?hstep ?hdone
      case hstep =>
        rintro ⟨b0, b1, b2, b3, b4, b5, b6, b7, b8, b9, b10, b11, b12, s38, s39, s40, s41, s42, s43, s44, s37, s45, s46, s10, s11⟩ W hI i hi
        dsimp only at hI hi ⊢
        have HI := Lib.hid hI
        clear hI
        rw [Region.ready, List.mem_filter, List.mem_range] at hi
        obtain ⟨hlt, hp⟩ := hi
        have hi7 : i = 0 ∨ i = 1 ∨ i = 2 ∨ i = 3 ∨ i = 4 ∨ i = 5 ∨ i = 6 ∨ i = 7 ∨ i = 8 ∨ i = 9 ∨ i = 10 ∨ i = 11 ∨ i = 12 := by simp at hlt; omega
        clear hlt
        rcases hi7 with rfl | rfl | rfl | rfl | rfl | rfl | rfl | rfl | rfl | rfl | rfl | rfl | rfl
        all_goals simp [Region.binds] at hp
        · have hn0 : b0 = false := by revert hp; cases b0 <;> simp
          clear hp
          subst hn0
          refine inv_op (o := ⟨some 38, _, _, _, _, _⟩) rfl (fun K' hK' => ?_)
          have gI := HI.out.2.2.2.2.2.2.2.2.2
          obtain ⟨hc0, hc1, hc2, hc3⟩ := HLD.out W gI.out
          go_simp
          obtain ⟨h0, h1, h2, h3, h4, h5, h7, h9, h12, gI⟩ := HI.out
          exact hK'.out _ _ ⟨⟨true, b1, b2, b3, b4, b5, b6, b7, b8, b9, b10, b11, b12, _, s39, s40, s41, s42, s43, s44, s37, s45, s46, s10, s11⟩, rfl, rfl, (fun _ => rfl), h1, h2, h3, h4, h5, h7, h9, h12, gI⟩
        · have hn1 : b1 = false := by revert hp; cases b1 <;> simp
          clear hp
          subst hn1
          refine inv_op (o := ⟨some 39, _, _, _, _, _⟩) rfl (fun K' hK' => ?_)
          go_simp
          obtain ⟨h0, h1, h2, h3, h4, h5, h7, h9, h12, gI⟩ := HI.out
          exact hK'.out _ _ ⟨⟨b0, true, b2, b3, b4, b5, b6, b7, b8, b9, b10, b11, b12, s38, _, s40, s41, s42, s43, s44, s37, s45, s46, s10, s11⟩, rfl, rfl, h0, (fun _ => rfl), h2, h3, h4, h5, h7, h9, h12, gI⟩
        · have hn2 : b2 = false := by revert hp; cases b2 <;> simp
          clear hp
          subst hn2
          refine inv_op (o := ⟨some 40, _, _, _, _, _⟩) rfl (fun K' hK' => ?_)
          go_simp
          obtain ⟨h0, h1, h2, h3, h4, h5, h7, h9, h12, gI⟩ := HI.out
          exact hK'.out _ _ ⟨⟨b0, b1, true, b3, b4, b5, b6, b7, b8, b9, b10, b11, b12, s38, s39, _, s41, s42, s43, s44, s37, s45, s46, s10, s11⟩, rfl, rfl, h0, h1, (fun _ => rfl), h3, h4, h5, h7, h9, h12, gI⟩
        · have hn3 : b3 = false := by revert hp; cases b3 <;> simp
          clear hp
          subst hn3
          refine inv_op (o := ⟨some 41, _, _, _, _, _⟩) rfl (fun K' hK' => ?_)
          go_simp
          obtain ⟨h0, h1, h2, h3, h4, h5, h7, h9, h12, gI⟩ := HI.out
          exact hK'.out _ _ ⟨⟨b0, b1, b2, true, b4, b5, b6, b7, b8, b9, b10, b11, b12, s38, s39, s40, _, s42, s43, s44, s37, s45, s46, s10, s11⟩, rfl, rfl, h0, h1, h2, (fun _ => rfl), h4, h5, h7, h9, h12, gI⟩
        · have hn4 : b4 = false := by revert hp; cases b4 <;> simp
          have e3 : b3 = true := by revert hp; cases b3 <;> simp
          clear hp
          obtain rfl := (HI.out.2.2.2.1) e3
          subst hn4
          refine inv_op (o := ⟨some 42, _, _, _, _, _⟩) rfl (fun K' hK' => ?_)
          go_simp
          obtain ⟨h0, h1, h2, h3, h4, h5, h7, h9, h12, gI⟩ := HI.out
          exact hK'.out _ _ ⟨⟨b0, b1, b2, b3, true, b5, b6, b7, b8, b9, b10, b11, b12, s38, s39, s40, _, _, s43, s44, s37, s45, s46, s10, s11⟩, rfl, rfl, h0, h1, h2, h3, (fun _ => rfl), h5, h7, h9, h12, gI⟩
        · have hn5 : b5 = false := by revert hp; cases b5 <;> simp
          have e1 : b1 = true := by revert hp; cases b1 <;> simp
          have e2 : b2 = true := by revert hp; cases b2 <;> simp
          have e4 : b4 = true := by revert hp; cases b4 <;> simp
          clear hp
          obtain rfl := (HI.out.2.1) e1
          obtain rfl := (HI.out.2.2.1) e2
          obtain rfl := (HI.out.2.2.2.2.1) e4
          subst hn5
          refine inv_op (o := ⟨some 43, _, _, _, _, _⟩) rfl (fun K' hK' => ?_)
          go_simp
          obtain ⟨h0, h1, h2, h3, h4, h5, h7, h9, h12, gI⟩ := HI.out
          exact hK'.out _ _ ⟨⟨b0, b1, b2, b3, b4, true, b6, b7, b8, b9, b10, b11, b12, s38, _, _, s41, _, _, s44, s37, s45, s46, s10, s11⟩, rfl, rfl, h0, h1, h2, h3, h4, (fun _ => rfl), h7, h9, h12, gI⟩
        · have hn6 : b6 = false := by revert hp; cases b6 <;> simp
          have e0 : b0 = true := by revert hp; cases b0 <;> simp
          have e5 : b5 = true := by revert hp; cases b5 <;> simp
          clear hp
          obtain rfl := (HI.out.1) e0
          obtain rfl := (HI.out.2.2.2.2.2.1) e5
          subst hn6
          refine inv_op (o := ⟨some 44, _, _, _, _, _⟩) rfl (fun K' hK' => ?_)
          have gI := HI.out.2.2.2.2.2.2.2.2.2
          have hb7 : b11 = false := by cases b11 with | false => rfl | true => exact absurd (gI.o3 (gI.o4 (gI.o8 rfl))) (by decide)
          subst hb7
          go_simp
          refine (HFC.out W gI.out).mono ?_
          rintro e w1 ⟨a, c, rfl, hr, bn⟩
          obtain ⟨h0, h1, h2, h3, h4, h5, h7, h9, h12, gI⟩ := HI.out
          exact hK'.out _ _ ⟨⟨b0, b1, b2, b3, b4, b5, true, b7, b8, b9, b10, false, b12, _, s39, s40, s41, s42, _, _, s37, s45, s46, s10, s11⟩, rfl, rfl, h0, h1, h2, h3, h4, h5, (fun e3 => absurd (gI.o3 e3) (by decide)), h9, h12, (gI.two bn hr)⟩
        · have hn7 : b7 = false := by revert hp; cases b7 <;> simp
          have e6 : b6 = true := by revert hp; cases b6 <;> simp
          clear hp
          subst hn7
          refine inv_op (o := ⟨some 37, _, _, _, _, _⟩) rfl (fun K' hK' => ?_)
          subst e6
          go_simp
          obtain ⟨h0, h1, h2, h3, h4, h5, h7, h9, h12, gI⟩ := HI.out
          exact hK'.out _ _ ⟨⟨b0, b1, b2, b3, b4, b5, true, true, b8, b9, b10, b11, b12, s38, s39, s40, s41, s42, s43, _, _, s45, s46, s10, s11⟩, rfl, rfl, h0, h1, h2, h3, h4, h5, (fun _ => rfl), h9, h12, gI.three⟩
        · have hn8 : b8 = false := by revert hp; cases b8 <;> simp
          have e7 : b7 = true := by revert hp; cases b7 <;> simp
          clear hp
          obtain rfl := (HI.out.2.2.2.2.2.2.1) e7
          subst hn8
          refine inv_op (o := ⟨some 45, _, _, _, _, _⟩) rfl (fun K' hK' => ?_)
          have gI := HI.out.2.2.2.2.2.2.2.2.2
          obtain ⟨a, c, rfl, _⟩ := gI.g2 (gI.o3 e7)
          subst e7
          go_simp
          obtain ⟨h0, h1, h2, h3, h4, h5, h7, h9, h12, gI⟩ := HI.out
          exact hK'.out _ _ ⟨⟨b0, b1, b2, b3, b4, b5, b6, true, true, b9, b10, b11, b12, s38, s39, s40, s41, s42, s43, _, _, _, s46, s10, s11⟩, rfl, rfl, h0, h1, h2, h3, h4, h5, h7, h9, h12, gI.four⟩
        · have hn9 : b9 = false := by revert hp; cases b9 <;> simp
          have e7 : b7 = true := by revert hp; cases b7 <;> simp
          clear hp
          obtain rfl := (HI.out.2.2.2.2.2.2.1) e7
          subst hn9
          refine inv_op (o := ⟨some 46, _, _, _, _, _⟩) rfl (fun K' hK' => ?_)
          have gI := HI.out.2.2.2.2.2.2.2.2.2
          obtain ⟨a, c, rfl, _⟩ := gI.g2 (gI.o3 e7)
          go_simp
          obtain ⟨h0, h1, h2, h3, h4, h5, h7, h9, h12, gI⟩ := HI.out
          exact hK'.out _ _ ⟨⟨b0, b1, b2, b3, b4, b5, b6, b7, b8, true, b10, b11, b12, s38, s39, s40, s41, s42, s43, _, _, s45, _, s10, s11⟩, rfl, rfl, h0, h1, h2, h3, h4, h5, h7, (fun _ => rfl), h12, gI⟩
        · have hn10 : b10 = false := by revert hp; cases b10 <;> simp
          clear hp
          subst hn10
          refine inv_op (o := ⟨some 10, _, _, _, _, _⟩) rfl (fun K' hK' => ?_)
          go_simp
          obtain ⟨h0, h1, h2, h3, h4, h5, h7, h9, h12, gI⟩ := HI.out
          exact hK'.out _ _ ⟨⟨b0, b1, b2, b3, b4, b5, b6, b7, b8, b9, true, b11, b12, s38, s39, s40, s41, s42, s43, s44, s37, s45, s46, _, s11⟩, rfl, rfl, h0, h1, h2, h3, h4, h5, h7, h9, h12, gI.six⟩
        · have hn11 : b11 = false := by revert hp; cases b11 <;> simp
          have e10 : b10 = true := by revert hp; cases b10 <;> simp
          have e8 : b8 = true := by revert hp; cases b8 <;> simp
          clear hp
          subst hn11
          refine inv_op (o := ⟨none, _, _, _, _, _⟩) rfl (fun K' hK' => ?_)
          have gI := HI.out.2.2.2.2.2.2.2.2.2
          obtain ⟨gx, rfl, hgx, hrow⟩ := gI.g6 e10 rfl
          obtain ⟨a, c, hw, hown⟩ := gI.g2 (gI.o3 (gI.o4 e8))
          obtain ⟨v, hv⟩ := gI.p4 e8
          obtain ⟨rfl, hvv⟩ := tuple_two (hv.symm.trans hw)
          clear hv hw hvv
          subst e10
          obtain ⟨hc0, hc1, hc2, hc3⟩ := four hrow
          obtain ⟨hz0, hz1, hz2, hz3⟩ := free4 hrow
          have hlx := (Array.getElem?_eq_some_iff.1 hrow).1
          go_simp
          obtain ⟨h0, h1, h2, h3, h4, h5, h7, h9, h12, gI⟩ := HI.out
          exact hK'.out _ _ ⟨⟨b0, b1, b2, b3, b4, b5, b6, b7, b8, b9, true, true, b12, s38, s39, s40, s41, s42, s43, s44, s37, _, s46, _, s11⟩, rfl, rfl, h0, h1, h2, h3, h4, h5, h7, h9, h12, (gI.seven e8 hown hgx hrow)⟩
        · have hn12 : b12 = false := by revert hp; cases b12 <;> simp
          have e9 : b9 = true := by revert hp; cases b9 <;> simp
          clear hp
          obtain rfl := (HI.out.2.2.2.2.2.2.2.1) e9
          subst hn12
          refine inv_op (o := ⟨some 11, _, _, _, _, _⟩) rfl (fun K' hK' => ?_)
          go_simp
          obtain ⟨h0, h1, h2, h3, h4, h5, h7, h9, h12, gI⟩ := HI.out
          exact hK'.out _ _ ⟨⟨b0, b1, b2, b3, b4, b5, b6, b7, b8, b9, b10, b11, true, s38, s39, s40, s41, s42, s43, s44, s37, s45, _, s10, _⟩, rfl, rfl, h0, h1, h2, h3, h4, h5, h7, h9, (fun _ => rfl), gI⟩
      case hdone =>
        rintro ⟨b0, b1, b2, b3, b4, b5, b6, b7, b8, b9, b10, b11, b12, s38, s39, s40, s41, s42, s43, s44, s37, s45, s46, s10, s11⟩ W hI hall
        dsimp only at hI hall ⊢
        have HI := Lib.hid hI
        clear hI
        obtain rfl : b0 = true := hall 0 (by decide)
        obtain rfl : b1 = true := hall 1 (by decide)
        obtain rfl : b2 = true := hall 2 (by decide)
        obtain rfl : b3 = true := hall 3 (by decide)
        obtain rfl : b4 = true := hall 4 (by decide)
        obtain rfl : b5 = true := hall 5 (by decide)
        obtain rfl : b6 = true := hall 6 (by decide)
        obtain rfl : b7 = true := hall 7 (by decide)
        obtain rfl : b8 = true := hall 8 (by decide)
        obtain rfl : b9 = true := hall 9 (by decide)
        obtain rfl : b10 = true := hall 10 (by decide)
        obtain rfl : b11 = true := hall 11 (by decide)
        obtain rfl : b12 = true := hall 12 (by decide)
        obtain rfl := (HI.out.1) rfl
        obtain rfl := (HI.out.2.1) rfl
        obtain rfl := (HI.out.2.2.1) rfl
        obtain rfl := (HI.out.2.2.2.1) rfl
        obtain rfl := (HI.out.2.2.2.2.1) rfl
        obtain rfl := (HI.out.2.2.2.2.2.1) rfl
        obtain rfl := (HI.out.2.2.2.2.2.2.1) rfl
        obtain rfl := (HI.out.2.2.2.2.2.2.2.1) rfl
        obtain rfl := (HI.out.2.2.2.2.2.2.2.2.1) rfl
        have gI := HI.out.2.2.2.2.2.2.2.2.2
        clear HI hall
        obtain ⟨w11, hwN⟩ : ∃ x, x = W := ⟨_, rfl⟩
        subst hwN
        obtain ⟨gq, aq, cq, rfl, hgl, hrw, hdw⟩ := gI.g7 rfl
        have hbW := gI.out
        replace OP := Lib.hid (ownsRow_below OP.out hbW)
        replace OU := Lib.hid (ownsRow_below OU.out hbW)
        replace BWi := Lib.hid (BWi.out.trans (hbW.mono BWi.out.size))
        replace Rp := Lib.hid (row_keep Rp.out hbW)
        replace HVi := Lib.hid (HVi.out.below hbW)
        have Rq := Lib.hid hrw
        have Oq := Lib.hid hdw
        have Gq := Lib.hid hgl
        clear gI hrw hdw hbW hgl
        have hle := Gq.out
        have hltw : w.heap.size < wr.heap.size := (Array.getElem?_eq_some_iff.1 hrp0.out).1
        have hne : gq ≠ w.heap.size := by omega
        have hne2 : w.heap.size ≠ gq := by omega
        clear hle hltw
        have BW11 := Lib.hid BWi.out
        obtain ⟨lRq0, lRq1, lRq2, lRq3⟩ := four Rq.out
        obtain ⟨lRp0, lRp1, lRp2, lRp3⟩ := four Rp.out
        obtain ⟨zRp0, zRp1, zRp2, zRp3⟩ := free4 Rp.out
        by_cases hmod : m % zn = 0
        · have hmz : (((m : Nat) : Int) % ((zn : Nat) : Int) == 0) = true := by rw [beq_iff_eq]; omega
          clear hmod
          go_wp2_with fail
          clear lRq0 lRq1 lRq2 lRq3 lRp0 lRp1 lRp2 lRp3 zRp0 zRp1 zRp2 zRp3
          clear hmz
          replace BWi := Lib.hid (put4_below (a := .int .u32 (x0 : Nat)) (b := .int .u32 (x0 : Nat)) (c := .int .u64 (x0 : Nat)) (d := .slice aq pk2 cq) BWi.out (Nat.le_refl _))
          replace OU := Lib.hid (put4_owns (a := .int .u32 (x0 : Nat)) (b := .int .u32 (x0 : Nat)) (c := .int .u64 (x0 : Nat)) (d := .slice aq pk2 cq) OU.out Rp.out)
          replace Oq := Lib.hid (put4_owns (a := .int .u32 (x0 : Nat)) (b := .int .u32 (x0 : Nat)) (c := .int .u64 (x0 : Nat)) (d := .slice aq pk2 cq) Oq.out Rp.out)
          replace Rp := Lib.hid (put4_row (a := .int .u32 (x0 : Nat)) (b := .int .u32 (x0 : Nat)) (c := .int .u64 (x0 : Nat)) (d := .slice aq pk2 cq) Rp.out)
          have hdz : drawP x0 l2.length (pk2 : Int) = 0 := by rw [HK2.out, drawP, if_pos (chkP_true.2 ⟨by rw [HX0.out]; omega, by omega⟩), if_neg (by omega), if_neg (by omega)]
          have HDF := Lib.hid hdz
          have HDL := Lib.hid (show leftL x0 l2 (pk2 : Int) = [] by rw [left_zero hdz, Int.toNat_natCast, List.drop_eq_nil_of_le (by rw [HK2.out]; exact Nat.le_refl _)])
          have HDT := Lib.hid (show takenL x0 l2 (pk2 : Int) = l2 by rw [taken_zero hdz, Int.toNat_natCast, List.take_of_length_le (by rw [HK2.out]; exact Nat.le_refl _)])
          have HLL2 := Lib.hid (show l2.length ≤ 140737488355328 by rw [HK2.out]; omega)
          have HQA := Lib.hid (show IsArg (put4 w11 w.heap.size (.int .u32 (x0 : Nat)) (.int .u32 (x0 : Nat)) (.int .u64 (x0 : Nat)) (.slice aq pk2 cq)) (.slice aq pk2 cq) l2 from isArg_of_owns (by rw [HK2.out]; exact Oq.out))
          clear hdz
          refine (draw_own x0 x0 x0 l2 HLL2.out (pk2 : Int) 0 HDF.out [] HDL.out 0 rfl l2 HDT.out pk2 HK2.out (put4 w11 w.heap.size (.int .u32 (x0 : Nat)) (.int .u32 (x0 : Nat)) (.int .u64 (x0 : Nat)) (.slice aq pk2 cq)) _ HQA.out).mono ?_
          rintro e w13 ⟨ad, cd, bd, dd, rfl, hpl, hxl, hb⟩
          have HAP := Lib.hid (show ∀ k, u8.ownBlock = some k → (Value.slice ad 0 cd).ownBlock ≠ some k from fun k hk hk2 => by
            have h1 := (OU.out.lt k hk).2
            have h2 := (hpl.lt k hk2).1
            omega)
          replace OU := Lib.hid (ownsRow_below OU.out hb)
          replace BWi := Lib.hid (BWi.out.trans (hb.mono BWi.out.size))
          replace Rp := Lib.hid (row_keep Rp.out hb)
          have OY := Lib.hid (show w13.ownsRow w.heap.size 5 1 (.slice ad 0 cd) 0 (byteCells []) from ownsRow_base hpl (by rw [put4_size]; exact BW11.out.size))
          have OX := Lib.hid (show w13.ownsRow w.heap.size 5 1 (.slice bd pk2 dd) pk2 (byteCells l2) from ownsRow_base hxl (by rw [put4_size]; exact BW11.out.size))
          have hlt13 : w.heap.size < w13.heap.size := (Array.getElem?_eq_some_iff.1 Rp.out).1
          clear hpl hxl hb
          go_wp2_with fail
          have hbx : Below (w13).heap.size (w13) ((w13).alloc (.cells #[.int .u32 (x0 : Nat), .int .u32 (x0 : Nat), .int .u64 (x0 : Nat), .slice ad 0 cd] 26)) := (Below.refl _ _).alloc (Nat.le_refl _) _
          replace OU := Lib.hid (ownsRow_below OU.out hbx)
          replace OY := Lib.hid (ownsRow_below OY.out hbx)
          replace OX := Lib.hid (ownsRow_below OX.out hbx)
          replace BWi := Lib.hid (BWi.out.trans (hbx.mono BWi.out.size))
          replace Rp := Lib.hid (row_keep Rp.out hbx)
          have Ry := Lib.hid (heap_alloc_new (w13) (.cells #[.int .u32 (x0 : Nat), .int .u32 (x0 : Nat), .int .u64 (x0 : Nat), .slice ad 0 cd] 26))
          clear hbx
          obtain ⟨j0, hji, hj0, hj1, hj2⟩ := info_parts info8
          have HJI := Lib.hid hji
          clear hji
          have HLN := Lib.hid (show o.length + l2.length ≤ 140737488355328 by
            have h := congrArg List.length HOL2.out
            rw [List.length_append, List.length_take] at h
            omega)
          have hne3 : w13.heap.size ≠ w.heap.size := by omega
          have HST := Lib.hid (show ASt w w.heap.size w13.heap.size x0 (.slice aq pk2 cq) (.slice ad 0 cd) u8 (.slice bd pk2 dd) o l2 [] false false u69 ((w13).alloc (.cells #[.int .u32 (x0 : Nat), .int .u32 (x0 : Nat), .int .u64 (x0 : Nat), .slice ad 0 cd] 26)) from { out := BWi.out, rq := Ry.out, rp := Rp.out, o4 := (fun e => by cases e), own := fun _ => OU.out, now := (fun e => by cases e), lef := OY.out, arg := fun _ => isArg_of_owns (by rw [HK2.out]; exact OX.out), apart := HAP.out })
          refine wp_region_rec (X := OrderB) (by kernel_rfl) (by kernel_rfl) (fun x => #[x.b0, x.b1, x.b2, x.b3, x.b4, x.b5]) (fun x => { tmps := List.toArray ((Value.slice va kb vc) :: (Value.int IntKind.i64 ↑zn) :: (Value.slice ta kt tc) :: undef :: undef :: undef :: u6 :: (Value.pointer (some ⟨w.heap.size, 0, none⟩)) :: x.s8 :: (Value.int IntKind.i64 ↑i) :: (Value.pointer (some ⟨gq, 0, none⟩)) :: (Value.int IntKind.i64 0) :: (Value.pointer (some ⟨w13.heap.size, 0, none⟩)) :: (Value.slice bd pk2 dd) :: (Value.int IntKind.i64 0) :: undef :: undef :: undef :: (Value.slice va kb vc) :: (Value.int IntKind.i64 ↑kb) :: (Value.bool false) :: (Value.bool false) :: (Value.int IntKind.i64 ↑zn) :: (Value.bool false) :: (Value.bool false) :: (Value.bool false) :: (Value.slice ta kt tc) :: (Value.int IntKind.i64 ↑kt) :: (Value.bool false) :: (Value.bool false) :: undef :: (Value.int IntKind.i64 ↑i) :: (Value.slice va kb vc) :: (Value.int IntKind.i64 ↑kb) :: (Value.bool true) :: u35 :: u36 :: s37 :: (Value.agg #[Value.int IntKind.u32 ↑x0, Value.int IntKind.u32 ↑x0, Value.int IntKind.u64 ↑x0, Value.slice pa pk pc]) :: (Value.slice va kb vc) :: (Value.int IntKind.i64 ↑i) :: (Value.int IntKind.i64 ↑i) :: (Value.int IntKind.i64 ↑m) :: (Value.slice xa xn xc) :: s37 :: s45 :: (Value.int IntKind.i64 0) :: (Value.int IntKind.i64 0) :: (Value.bool false) :: (Value.agg #[Value.int IntKind.u32 ↑x0, Value.int IntKind.u32 ↑x0, Value.int IntKind.u64 ↑x0, Value.slice aq pk2 cq]) :: (Value.int IntKind.i64 ↑i) :: (Value.int IntKind.i64 ↑m) :: (Value.int IntKind.i64 ↑zn) :: (Value.int IntKind.i64 (↑m % ↑zn)) :: (Value.bool true) :: (Value.tuple #[Value.agg #[Value.int IntKind.u32 ↑x0, Value.int IntKind.u32 ↑x0, Value.int IntKind.u64 ↑x0, Value.slice ad 0 cd], Value.slice bd pk2 dd, Value.int IntKind.i64 0]) :: (Value.agg #[Value.int IntKind.u32 ↑x0, Value.int IntKind.u32 ↑x0, Value.int IntKind.u64 ↑x0, Value.slice aq pk2 cq]) :: (Value.pointer (some ⟨w.heap.size, 3, none⟩)) :: (Value.slice aq pk2 cq) :: (Value.int IntKind.i64 ↑pk2) :: (Value.tuple #[Value.agg #[Value.int IntKind.u32 ↑x0, Value.int IntKind.u32 ↑x0, Value.int IntKind.u64 ↑x0, Value.slice ad 0 cd], Value.slice bd pk2 dd, Value.int IntKind.i64 0]) :: (Value.agg #[Value.int IntKind.u32 ↑x0, Value.int IntKind.u32 ↑x0, Value.int IntKind.u64 ↑x0, Value.slice ad 0 cd]) :: (Value.slice bd pk2 dd) :: (Value.int IntKind.i64 0) :: (Value.int IntKind.i64 0) :: (Value.bool false) :: x.s66 :: x.s67 :: x.s68 :: x.s69 :: undef :: undef :: undef :: undef :: undef :: undef :: undef :: undef :: undef :: undef :: undef :: undef :: undef :: undef :: undef :: undef :: undef :: undef :: undef :: undef :: undef :: undef :: undef :: undef :: undef :: undef :: undef :: undef :: undef :: undef :: undef :: undef :: undef :: undef :: undef :: undef :: undef :: undef :: undef :: undef :: undef :: undef :: undef :: undef :: undef :: undef :: undef :: undef :: undef :: []), defers := [] }) (fun x W => (x.b0 = true → x.s66 = .agg #[.int .u32 (x0 : Nat), .int .u32 (x0 : Nat), .int .u64 (x0 : Nat), .slice ad 0 cd]) ∧ (x.b1 = true → x.s67 = u8) ∧ (x.b2 = true → x.s68 = .slice bd pk2 dd) ∧ (x.b5 = true → x.s8 = x.s69) ∧ (ASt w w.heap.size w13.heap.size x0 (.slice aq pk2 cq) (.slice ad 0 cd) u8 (.slice bd pk2 dd) o l2 [] x.b3 x.b4 x.s69 W) ∧ (((x.b5 = true → x.b1 = true ∧ x.b3 = true) ∧ (x.b5 = false → u8 = x.s8)))) ⟨false, false, false, false, false, false, u66, u67, u68, u69, u8⟩ rfl rfl ⟨(fun h => by cases h), (fun h => by cases h), (fun h => by cases h), (fun h => by cases h), (HST.out.below2 (Below.refl _ _).drew), ⟨(fun e => by cases e), fun _ => rfl⟩⟩ (fun _ => rfl) ?hstep ?hdone
          case hstep =>
            rintro ⟨b0, b1, b2, b3, b4, b5, s66, s67, s68, s69, s8⟩ W hI i hi
            dsimp only at hI hi ⊢
            have HI := Lib.hid hI
            clear hI
            rw [Region.ready, List.mem_filter, List.mem_range] at hi
            obtain ⟨hlt, hp⟩ := hi
            have hi7 : i = 0 ∨ i = 1 ∨ i = 2 ∨ i = 3 ∨ i = 4 ∨ i = 5 := by simp at hlt; omega
            clear hlt
            rcases hi7 with rfl | rfl | rfl | rfl | rfl | rfl
            all_goals simp [Region.binds] at hp
            · have hn0 : b0 = false := by revert hp; cases b0 <;> simp
              clear hp
              subst hn0
              refine inv_op (o := ⟨some 66, _, _, _, _, _⟩) rfl (fun K' hK' => ?_)
              have gI := HI.out.2.2.2.2.1
              obtain ⟨hc0, hc1, hc2, hc3⟩ := four gI.rq
              go_simp
              obtain ⟨h0, h1, h2, h5, gI, gV⟩ := HI.out
              exact hK'.out _ _ ⟨⟨true, b1, b2, b3, b4, b5, _, s67, s68, s69, s8⟩, rfl, rfl, (fun _ => rfl), h1, h2, h5, gI, gV⟩
            · have hn1 : b1 = false := by revert hp; cases b1 <;> simp
              clear hp
              subst hn1
              refine inv_op (o := ⟨some 67, _, _, _, _, _⟩) rfl (fun K' hK' => ?_)
              have gV := HI.out.2.2.2.2.2
              obtain ⟨hv1, hv2⟩ := gV
              have hb5 : b5 = false := by cases b5 with | false => rfl | true => exact absurd (hv1 rfl).1 (by decide)
              subst hb5
              obtain rfl := hv2 rfl
              go_simp
              obtain ⟨h0, h1, h2, h5, gI, gV⟩ := HI.out
              exact hK'.out _ _ ⟨⟨b0, true, b2, b3, b4, false, s66, _, s68, s69, _⟩, rfl, rfl, h0, (fun _ => rfl), h2, (fun e => by cases e), gI, ⟨(fun e => by cases e), fun _ => rfl⟩⟩
            · have hn2 : b2 = false := by revert hp; cases b2 <;> simp
              clear hp
              subst hn2
              refine inv_op (o := ⟨some 68, _, _, _, _, _⟩) rfl (fun K' hK' => ?_)
              go_simp
              obtain ⟨h0, h1, h2, h5, gI, gV⟩ := HI.out
              exact hK'.out _ _ ⟨⟨b0, b1, true, b3, b4, b5, s66, s67, _, s69, s8⟩, rfl, rfl, h0, h1, (fun _ => rfl), h5, gI, gV⟩
            · have hn3 : b3 = false := by revert hp; cases b3 <;> simp
              have e1 : b1 = true := by revert hp; cases b1 <;> simp
              have e2 : b2 = true := by revert hp; cases b2 <;> simp
              clear hp
              obtain rfl := (HI.out.2.1) e1
              obtain rfl := (HI.out.2.2.1) e2
              subst hn3
              refine inv_op (o := ⟨some 69, _, _, _, _, _⟩) rfl (fun K' hK' => ?_)
              have gI := HI.out.2.2.2.2.1
              have gV := HI.out.2.2.2.2.2
              have hb4 : b4 = false := by cases b4 with | false => rfl | true => exact absurd (gI.o4 rfl) (by decide)
              subst hb4
              have hb5 : b5 = false := by cases b5 with | false => rfl | true => exact absurd (gV.1 rfl).2 (by decide)
              subst hb5
              refine step_append_isArg _ (by rfl) _ _ 24 (by rfl) w.heap.size 5 j0 (.int .u8 0) Try.underlying24 HJI.out hj0 hj1 hj2 rfl _ o.length (byteCells o) (by rfl) (gI.own rfl) (.slice bd pk2 dd) l2 (by rfl) (gI.arg rfl).2 HLN.out gI.out.size ?_
              intro v1 w1 hown1 hgrow
              obtain ⟨h0, h1, h2, h5, gI, gV⟩ := HI.out
              exact hK'.out _ _ ⟨⟨b0, b1, b2, true, false, false, s66, _, _, _, s8⟩, rfl, rfl, h0, h1, h2, (fun e => by cases e), (gI.three v1 hown1 hgrow), ⟨(fun e => by cases e), gV.2⟩⟩
            · have hn4 : b4 = false := by revert hp; cases b4 <;> simp
              have e0 : b0 = true := by revert hp; cases b0 <;> simp
              have e3 : b3 = true := by revert hp; cases b3 <;> simp
              clear hp
              obtain rfl := (HI.out.1) e0
              subst hn4
              refine inv_op (o := ⟨none, _, _, _, _, _⟩) rfl (fun K' hK' => ?_)
              have gI := HI.out.2.2.2.2.1
              subst e3
              have hrp := gI.rp
              rw [if_neg (by decide)] at hrp
              obtain ⟨hc0, hc1, hc2, hc3⟩ := four hrp
              obtain ⟨hz0, hz1, hz2, hz3⟩ := free4 hrp
              have hlx := (Array.getElem?_eq_some_iff.1 hrp).1
              go_simp
              obtain ⟨h0, h1, h2, h5, gI, gV⟩ := HI.out
              exact hK'.out _ _ ⟨⟨b0, b1, b2, true, true, b5, _, s67, s68, s69, s8⟩, rfl, rfl, h0, h1, h2, h5, (gI.four (Nat.le_refl _) hne3), ⟨fun e => ⟨(gV.1 e).1, rfl⟩, gV.2⟩⟩
            · have hn5 : b5 = false := by revert hp; cases b5 <;> simp
              have e1 : b1 = true := by revert hp; cases b1 <;> simp
              have e3 : b3 = true := by revert hp; cases b3 <;> simp
              have e4 : b4 = true := by revert hp; cases b4 <;> simp
              clear hp
              subst hn5
              refine inv_op (o := ⟨some 8, _, _, _, _, _⟩) rfl (fun K' hK' => ?_)
              go_simp
              obtain ⟨h0, h1, h2, h5, gI, gV⟩ := HI.out
              exact hK'.out _ _ ⟨⟨b0, b1, b2, b3, b4, true, s66, s67, s68, _, _⟩, rfl, rfl, h0, h1, h2, (fun _ => rfl), gI, ⟨fun _ => ⟨e1, e3⟩, (fun e => by cases e)⟩⟩
          case hdone =>
            rintro ⟨b0, b1, b2, b3, b4, b5, s66, s67, s68, s69, s8⟩ W hI hall
            dsimp only at hI hall ⊢
            have HI := Lib.hid hI
            clear hI
            obtain rfl : b0 = true := hall 0 (by decide)
            obtain rfl : b1 = true := hall 1 (by decide)
            obtain rfl : b2 = true := hall 2 (by decide)
            obtain rfl : b3 = true := hall 3 (by decide)
            obtain rfl : b4 = true := hall 4 (by decide)
            obtain rfl : b5 = true := hall 5 (by decide)
            obtain rfl := (HI.out.1) rfl
            obtain rfl := (HI.out.2.1) rfl
            obtain rfl := (HI.out.2.2.1) rfl
            obtain rfl := (HI.out.2.2.2.1) rfl
            have gI := HI.out.2.2.2.2.1
            clear HI hall
            obtain ⟨w14, hwN⟩ : ∃ x, x = W := ⟨_, rfl⟩
            subst hwN
            have HFI := Lib.hid gI
            clear gI
            go_wp2
            go_roundw
            case rel => exact ⟨m, 0, ad, cd, o ++ l2, [], rfl, hmk, (by have h := HFI.out.rp; rw [if_pos rfl] at h; exact h), HFI.out.lef, rfl, HFI.out.now rfl, (by rw [List.append_nil]; exact HOL2.out), HFI.out.out⟩
            case measure => simp [intOf]; omega
        · have hmz : (((m : Nat) : Int) % ((zn : Nat) : Int) == 0) = false := by rw [beq_eq_false_iff_ne]; omega
          clear hmod
          go_wp2
          clear lRq0 lRq1 lRq2 lRq3 lRp0 lRp1 lRp2 lRp3 zRp0 zRp1 zRp2 zRp3
          clear hmz
          go_roundw
          case rel => exact ⟨m, pk2, aq, cq, o, l2, rfl, hmk, put4_row Rp.out, put4_owns (ownsRow_base Oq.out HSW.out) Rp.out, HK2.out, put4_owns OU.out Rp.out, HOL2.out, put4_below BWi.out (Nat.le_refl _)⟩
          case measure => simp [intOf]; omega
    · obtain rfl : i = kb := by omega
      obtain ⟨wA, hwA⟩ : ∃ x, x = wr := ⟨_, rfl⟩
      subst hwA
      have HOB := Lib.hid (show o ++ l = lb by rw [HOL.out, ← HKB.out, List.take_length])
      have hpk40 : pk ≤ 40 := by
        have h := congrArg List.length HOB.out
        rw [List.length_append, HPK.out, HKB.out] at h
        omega
      have HTA := Lib.hid (HT.out.below BWi.out)
      have HLL := Lib.hid (show l.length ≤ 140737488355328 by rw [HPK.out]; omega)
      go_wp2
      go_loopw [15] (fun x wr => ∃ (j T : Nat) (qa : Option Addr) (qc : Nat), x = .int .i64 j ∧ j ≤ kt ∧ T ≤ 1099511627776 ∧ wr.heap[w.heap.size]? = some (.cells #[.int .u32 (x0 : Nat), .int .u32 (x0 : Nat), .int .u64 (T : Nat), .slice qa pk qc] 26 (0, 0)) ∧ wr.ownsRow w.heap.size 5 1 (.slice qa pk qc) pk (byteCells l) ∧ wr.ownsRow w.heap.size 5 1 u8 o.length (byteCells o) ∧ Below w.heap.size w wr) (fun x _ => kt - (intOf x).toNat)
      case atStart => exact ⟨0, x0, pa, pc, rfl, Nat.zero_le _, by rw [HX0.out]; omega, Rp.out, OP.out, OU.out, BWi.out⟩
      case round =>
        clear Rp OP OU BWi HVi HTA
        obtain ⟨j, T, qa, qc, rfl, hj, hT, hrp, hpl, hou, hbw⟩ := hrel
        have BWi := Lib.hid hbw
        have HSW := Lib.hid hbw.size
        have Rp := Lib.hid hrp
        have hrp0 := Lib.hid hrp
        have OP := Lib.hid hpl
        have OU := Lib.hid hou
        have HVi := Lib.hid (HV.out.below hbw)
        have HTi := Lib.hid (HT.out.below hbw)
        clear hrp hpl hou hbw
        by_cases hlt : j < kt
        · obtain ⟨tb, toff, hta, htl⟩ := HTi.out.at j (by rw [HKT.out]; exact hlt)
          subst hta
          obtain ⟨t, ht⟩ : ∃ t, t = lt.getD j 0 := ⟨_, rfl⟩
          rw [← ht] at htl
          have i1 : (0 : Int) ≤ (j : Int) := by omega
          have i2 : (j : Int) < (kt : Int) := by omega
          have HTL := Lib.hid htl
          obtain ⟨F, hF⟩ : ∃ F, tickP T l.length t = F := ⟨_, rfl⟩
          obtain ⟨T2, hT2⟩ : ∃ T2, tickT T l.length t = T2 := ⟨_, rfl⟩
          have HF := Lib.hid hF
          have HT2 := Lib.hid hT2
          have HLD := Lib.hid (show ∀ W, Below wr.heap.size wr W → Four W w.heap.size (.int .u32 (x0 : Nat)) (.int .u32 (x0 : Nat)) (.int .u64 (T : Nat)) (.slice qa pk qc) from fun W h => four (row_keep Rp.out h))
          have HLT := Lib.hid (show ∀ W, Below wr.heap.size wr W → W.cell? ⟨tb, toff + j, none⟩ = some (.int .u64 (t : Nat)) from fun W h => kept HTL.out h)
          have HTC := Lib.hid (show ∀ W, Below wr.heap.size wr W → Calls Try.prog 16 #[.agg #[.int .u32 (x0 : Nat), .int .u32 (x0 : Nat), .int .u64 (T : Nat), .slice qa pk qc], .int .u64 (t : Nat)] W (OwnA wr.heap.size W x0 x0 T2 pk l F) from fun W h => tick_own x0 x0 T l pk HPK.out HLL.out t F HF.out T2 HT2.out _ W h.size _ ((isArg_of_owns (by rw [HPK.out]; exact OP.out)).below h))
          clear htl ht hF hT2
          go_wp2_with fail
          refine wp_region_rec (X := OrderC) (by kernel_rfl) (by kernel_rfl) (fun x => #[x.b0, x.b1, x.b2, x.b3, x.b4, x.b5, x.b6, x.b7, x.b8, x.b9, x.b10, x.b11]) (fun x => { tmps := List.toArray ((Value.slice va i vc) :: (Value.int IntKind.i64 ↑zn) :: (Value.slice (some ⟨tb, toff, none⟩) kt tc) :: undef :: undef :: undef :: u6 :: (Value.pointer (some ⟨w.heap.size, 0, none⟩)) :: u8 :: (Value.int IntKind.i64 ↑i) :: u10 :: u11 :: u12 :: u13 :: u14 :: (Value.int IntKind.i64 ↑j) :: x.s16 :: x.s17 :: (Value.slice va i vc) :: (Value.int IntKind.i64 ↑i) :: (Value.bool false) :: (Value.bool false) :: (Value.int IntKind.i64 ↑zn) :: (Value.bool false) :: (Value.bool false) :: (Value.bool false) :: (Value.slice (some ⟨tb, toff, none⟩) kt tc) :: (Value.int IntKind.i64 ↑kt) :: (Value.bool false) :: (Value.bool false) :: undef :: (Value.int IntKind.i64 ↑i) :: (Value.slice va i vc) :: (Value.int IntKind.i64 ↑i) :: (Value.bool false) :: u35 :: u36 :: u37 :: u38 :: u39 :: u40 :: u41 :: u42 :: u43 :: u44 :: u45 :: u46 :: u47 :: u48 :: u49 :: u50 :: u51 :: u52 :: u53 :: u54 :: u55 :: u56 :: u57 :: u58 :: u59 :: u60 :: u61 :: u62 :: u63 :: u64 :: u65 :: u66 :: u67 :: u68 :: u69 :: (Value.int IntKind.i64 ↑j) :: (Value.slice (some ⟨tb, toff, none⟩) kt tc) :: (Value.int IntKind.i64 ↑kt) :: (Value.bool true) :: u74 :: u75 :: x.s76 :: x.s77 :: x.s78 :: x.s79 :: x.s80 :: x.s81 :: x.s82 :: x.s83 :: x.s84 :: u85 :: u86 :: u87 :: u88 :: u89 :: u90 :: u91 :: u92 :: u93 :: u94 :: u95 :: u96 :: u97 :: u98 :: u99 :: u100 :: u101 :: u102 :: u103 :: u104 :: u105 :: u106 :: u107 :: u108 :: u109 :: undef :: undef :: undef :: undef :: undef :: undef :: undef :: undef :: undef :: []), defers := [] }) (fun x W => (x.b0 = true → x.s77 = .agg #[.int .u32 (x0 : Nat), .int .u32 (x0 : Nat), .int .u64 (T : Nat), .slice qa pk qc]) ∧ (x.b1 = true → x.s78 = .slice (some ⟨tb, toff, none⟩) kt tc) ∧ (x.b2 = true → x.s79 = .int .i64 (j : Nat)) ∧ (x.b3 = true → x.s80 = .pointer (some ⟨tb, toff + j, none⟩)) ∧ (x.b4 = true → x.s81 = .int .u64 (t : Nat)) ∧ (x.b6 = true → x.s76 = x.s82) ∧ (x.b8 = true → x.s84 = .int .i64 F) ∧ (x.b11 = true → x.s17 = .int .i64 F) ∧ (PSt wr x0 x0 T2 pk l F x.b5 x.b6 x.b7 x.b9 x.b10 x.s82 x.s83 x.s16 W)) ⟨false, false, false, false, false, false, false, false, false, false, false, false, u77, u78, u79, u80, u81, u82, u76, u83, u84, u16, u17⟩ rfl rfl ⟨(fun h => by cases h), (fun h => by cases h), (fun h => by cases h), (fun h => by cases h), (fun h => by cases h), (fun h => by cases h), (fun h => by cases h), (fun h => by cases h), (PSt.start (Below.refl _ _).drew)⟩ (fun _ => rfl) ?hstep ?hdone
          case hstep =>
            rintro ⟨b0, b1, b2, b3, b4, b5, b6, b7, b8, b9, b10, b11, s77, s78, s79, s80, s81, s82, s76, s83, s84, s16, s17⟩ W hI i hi
            dsimp only at hI hi ⊢
            have HI := Lib.hid hI
            clear hI
            rw [Region.ready, List.mem_filter, List.mem_range] at hi
            obtain ⟨hlt, hp⟩ := hi
            have hi7 : i = 0 ∨ i = 1 ∨ i = 2 ∨ i = 3 ∨ i = 4 ∨ i = 5 ∨ i = 6 ∨ i = 7 ∨ i = 8 ∨ i = 9 ∨ i = 10 ∨ i = 11 := by simp at hlt; omega
            clear hlt
            rcases hi7 with rfl | rfl | rfl | rfl | rfl | rfl | rfl | rfl | rfl | rfl | rfl | rfl
            all_goals simp [Region.binds] at hp
            · have hn0 : b0 = false := by revert hp; cases b0 <;> simp
              clear hp
              subst hn0
              refine inv_op (o := ⟨some 77, _, _, _, _, _⟩) rfl (fun K' hK' => ?_)
              have gI := HI.out.2.2.2.2.2.2.2.2
              obtain ⟨hc0, hc1, hc2, hc3⟩ := HLD.out W gI.out
              go_simp
              obtain ⟨h0, h1, h2, h3, h4, h6, h8, h11, gI⟩ := HI.out
              exact hK'.out _ _ ⟨⟨true, b1, b2, b3, b4, b5, b6, b7, b8, b9, b10, b11, _, s78, s79, s80, s81, s82, s76, s83, s84, s16, s17⟩, rfl, rfl, (fun _ => rfl), h1, h2, h3, h4, h6, h8, h11, gI⟩
            · have hn1 : b1 = false := by revert hp; cases b1 <;> simp
              clear hp
              subst hn1
              refine inv_op (o := ⟨some 78, _, _, _, _, _⟩) rfl (fun K' hK' => ?_)
              go_simp
              obtain ⟨h0, h1, h2, h3, h4, h6, h8, h11, gI⟩ := HI.out
              exact hK'.out _ _ ⟨⟨b0, true, b2, b3, b4, b5, b6, b7, b8, b9, b10, b11, s77, _, s79, s80, s81, s82, s76, s83, s84, s16, s17⟩, rfl, rfl, h0, (fun _ => rfl), h2, h3, h4, h6, h8, h11, gI⟩
            · have hn2 : b2 = false := by revert hp; cases b2 <;> simp
              clear hp
              subst hn2
              refine inv_op (o := ⟨some 79, _, _, _, _, _⟩) rfl (fun K' hK' => ?_)
              go_simp
              obtain ⟨h0, h1, h2, h3, h4, h6, h8, h11, gI⟩ := HI.out
              exact hK'.out _ _ ⟨⟨b0, b1, true, b3, b4, b5, b6, b7, b8, b9, b10, b11, s77, s78, _, s80, s81, s82, s76, s83, s84, s16, s17⟩, rfl, rfl, h0, h1, (fun _ => rfl), h3, h4, h6, h8, h11, gI⟩
            · have hn3 : b3 = false := by revert hp; cases b3 <;> simp
              have e1 : b1 = true := by revert hp; cases b1 <;> simp
              have e2 : b2 = true := by revert hp; cases b2 <;> simp
              clear hp
              obtain rfl := (HI.out.2.1) e1
              obtain rfl := (HI.out.2.2.1) e2
              subst hn3
              refine inv_op (o := ⟨some 80, _, _, _, _, _⟩) rfl (fun K' hK' => ?_)
              go_simp
              obtain ⟨h0, h1, h2, h3, h4, h6, h8, h11, gI⟩ := HI.out
              exact hK'.out _ _ ⟨⟨b0, b1, b2, true, b4, b5, b6, b7, b8, b9, b10, b11, s77, _, _, _, s81, s82, s76, s83, s84, s16, s17⟩, rfl, rfl, h0, h1, h2, (fun _ => rfl), h4, h6, h8, h11, gI⟩
            · have hn4 : b4 = false := by revert hp; cases b4 <;> simp
              have e3 : b3 = true := by revert hp; cases b3 <;> simp
              clear hp
              obtain rfl := (HI.out.2.2.2.1) e3
              subst hn4
              refine inv_op (o := ⟨some 81, _, _, _, _, _⟩) rfl (fun K' hK' => ?_)
              have gI := HI.out.2.2.2.2.2.2.2.2
              have hc1 := HLT.out W gI.out
              go_simp
              obtain ⟨h0, h1, h2, h3, h4, h6, h8, h11, gI⟩ := HI.out
              exact hK'.out _ _ ⟨⟨b0, b1, b2, b3, true, b5, b6, b7, b8, b9, b10, b11, s77, s78, s79, _, _, s82, s76, s83, s84, s16, s17⟩, rfl, rfl, h0, h1, h2, h3, (fun _ => rfl), h6, h8, h11, gI⟩
            · have hn5 : b5 = false := by revert hp; cases b5 <;> simp
              have e0 : b0 = true := by revert hp; cases b0 <;> simp
              have e4 : b4 = true := by revert hp; cases b4 <;> simp
              clear hp
              obtain rfl := (HI.out.1) e0
              obtain rfl := (HI.out.2.2.2.2.1) e4
              subst hn5
              refine inv_op (o := ⟨some 82, _, _, _, _, _⟩) rfl (fun K' hK' => ?_)
              have gI := HI.out.2.2.2.2.2.2.2.2
              have hb7 : b10 = false := by cases b10 with | false => rfl | true => exact absurd (gI.o3 (gI.o4 (gI.o8 rfl))) (by decide)
              subst hb7
              go_simp
              refine (HTC.out W gI.out).mono ?_
              rintro e w1 ⟨a, c, rfl, hr, bn⟩
              obtain ⟨h0, h1, h2, h3, h4, h6, h8, h11, gI⟩ := HI.out
              exact hK'.out _ _ ⟨⟨b0, b1, b2, b3, b4, true, b6, b7, b8, b9, false, b11, _, s78, s79, s80, _, _, s76, s83, s84, s16, s17⟩, rfl, rfl, h0, h1, h2, h3, h4, (fun e3 => absurd (gI.o3 e3) (by decide)), h8, h11, (gI.two bn hr)⟩
            · have hn6 : b6 = false := by revert hp; cases b6 <;> simp
              have e5 : b5 = true := by revert hp; cases b5 <;> simp
              clear hp
              subst hn6
              refine inv_op (o := ⟨some 76, _, _, _, _, _⟩) rfl (fun K' hK' => ?_)
              subst e5
              go_simp
              obtain ⟨h0, h1, h2, h3, h4, h6, h8, h11, gI⟩ := HI.out
              exact hK'.out _ _ ⟨⟨b0, b1, b2, b3, b4, true, true, b7, b8, b9, b10, b11, s77, s78, s79, s80, s81, _, _, s83, s84, s16, s17⟩, rfl, rfl, h0, h1, h2, h3, h4, (fun _ => rfl), h8, h11, gI.three⟩
            · have hn7 : b7 = false := by revert hp; cases b7 <;> simp
              have e6 : b6 = true := by revert hp; cases b6 <;> simp
              clear hp
              obtain rfl := (HI.out.2.2.2.2.2.1) e6
              subst hn7
              refine inv_op (o := ⟨some 83, _, _, _, _, _⟩) rfl (fun K' hK' => ?_)
              have gI := HI.out.2.2.2.2.2.2.2.2
              obtain ⟨a, c, rfl, _⟩ := gI.g2 (gI.o3 e6)
              subst e6
              go_simp
              obtain ⟨h0, h1, h2, h3, h4, h6, h8, h11, gI⟩ := HI.out
              exact hK'.out _ _ ⟨⟨b0, b1, b2, b3, b4, b5, true, true, b8, b9, b10, b11, s77, s78, s79, s80, s81, _, _, _, s84, s16, s17⟩, rfl, rfl, h0, h1, h2, h3, h4, h6, h8, h11, gI.four⟩
            · have hn8 : b8 = false := by revert hp; cases b8 <;> simp
              have e6 : b6 = true := by revert hp; cases b6 <;> simp
              clear hp
              obtain rfl := (HI.out.2.2.2.2.2.1) e6
              subst hn8
              refine inv_op (o := ⟨some 84, _, _, _, _, _⟩) rfl (fun K' hK' => ?_)
              have gI := HI.out.2.2.2.2.2.2.2.2
              obtain ⟨a, c, rfl, _⟩ := gI.g2 (gI.o3 e6)
              go_simp
              obtain ⟨h0, h1, h2, h3, h4, h6, h8, h11, gI⟩ := HI.out
              exact hK'.out _ _ ⟨⟨b0, b1, b2, b3, b4, b5, b6, b7, true, b9, b10, b11, s77, s78, s79, s80, s81, _, _, s83, _, s16, s17⟩, rfl, rfl, h0, h1, h2, h3, h4, h6, (fun _ => rfl), h11, gI⟩
            · have hn9 : b9 = false := by revert hp; cases b9 <;> simp
              clear hp
              subst hn9
              refine inv_op (o := ⟨some 16, _, _, _, _, _⟩) rfl (fun K' hK' => ?_)
              go_simp
              obtain ⟨h0, h1, h2, h3, h4, h6, h8, h11, gI⟩ := HI.out
              exact hK'.out _ _ ⟨⟨b0, b1, b2, b3, b4, b5, b6, b7, b8, true, b10, b11, s77, s78, s79, s80, s81, s82, s76, s83, s84, _, s17⟩, rfl, rfl, h0, h1, h2, h3, h4, h6, h8, h11, gI.six⟩
            · have hn10 : b10 = false := by revert hp; cases b10 <;> simp
              have e9 : b9 = true := by revert hp; cases b9 <;> simp
              have e7 : b7 = true := by revert hp; cases b7 <;> simp
              clear hp
              subst hn10
              refine inv_op (o := ⟨none, _, _, _, _, _⟩) rfl (fun K' hK' => ?_)
              have gI := HI.out.2.2.2.2.2.2.2.2
              obtain ⟨gx, rfl, hgx, hrow⟩ := gI.g6 e9 rfl
              obtain ⟨a, c, hw, hown⟩ := gI.g2 (gI.o3 (gI.o4 e7))
              obtain ⟨v, hv⟩ := gI.p4 e7
              obtain ⟨rfl, hvv⟩ := tuple_two (hv.symm.trans hw)
              clear hv hw hvv
              subst e9
              obtain ⟨hc0, hc1, hc2, hc3⟩ := four hrow
              obtain ⟨hz0, hz1, hz2, hz3⟩ := free4 hrow
              have hlx := (Array.getElem?_eq_some_iff.1 hrow).1
              go_simp
              obtain ⟨h0, h1, h2, h3, h4, h6, h8, h11, gI⟩ := HI.out
              exact hK'.out _ _ ⟨⟨b0, b1, b2, b3, b4, b5, b6, b7, b8, true, true, b11, s77, s78, s79, s80, s81, s82, s76, _, s84, _, s17⟩, rfl, rfl, h0, h1, h2, h3, h4, h6, h8, h11, (gI.seven e7 hown hgx hrow)⟩
            · have hn11 : b11 = false := by revert hp; cases b11 <;> simp
              have e8 : b8 = true := by revert hp; cases b8 <;> simp
              clear hp
              obtain rfl := (HI.out.2.2.2.2.2.2.1) e8
              subst hn11
              refine inv_op (o := ⟨some 17, _, _, _, _, _⟩) rfl (fun K' hK' => ?_)
              go_simp
              obtain ⟨h0, h1, h2, h3, h4, h6, h8, h11, gI⟩ := HI.out
              exact hK'.out _ _ ⟨⟨b0, b1, b2, b3, b4, b5, b6, b7, b8, b9, b10, true, s77, s78, s79, s80, s81, s82, s76, s83, _, s16, _⟩, rfl, rfl, h0, h1, h2, h3, h4, h6, h8, (fun _ => rfl), gI⟩
          case hdone =>
            rintro ⟨b0, b1, b2, b3, b4, b5, b6, b7, b8, b9, b10, b11, s77, s78, s79, s80, s81, s82, s76, s83, s84, s16, s17⟩ W hI hall
            dsimp only at hI hall ⊢
            have HI := Lib.hid hI
            clear hI
            obtain rfl : b0 = true := hall 0 (by decide)
            obtain rfl : b1 = true := hall 1 (by decide)
            obtain rfl : b2 = true := hall 2 (by decide)
            obtain rfl : b3 = true := hall 3 (by decide)
            obtain rfl : b4 = true := hall 4 (by decide)
            obtain rfl : b5 = true := hall 5 (by decide)
            obtain rfl : b6 = true := hall 6 (by decide)
            obtain rfl : b7 = true := hall 7 (by decide)
            obtain rfl : b8 = true := hall 8 (by decide)
            obtain rfl : b9 = true := hall 9 (by decide)
            obtain rfl : b10 = true := hall 10 (by decide)
            obtain rfl : b11 = true := hall 11 (by decide)
            obtain rfl := (HI.out.1) rfl
            obtain rfl := (HI.out.2.1) rfl
            obtain rfl := (HI.out.2.2.1) rfl
            obtain rfl := (HI.out.2.2.2.1) rfl
            obtain rfl := (HI.out.2.2.2.2.1) rfl
            obtain rfl := (HI.out.2.2.2.2.2.1) rfl
            obtain rfl := (HI.out.2.2.2.2.2.2.1) rfl
            obtain rfl := (HI.out.2.2.2.2.2.2.2.1) rfl
            have gI := HI.out.2.2.2.2.2.2.2.2
            clear HI hall
            obtain ⟨w21, hwN⟩ : ∃ x, x = W := ⟨_, rfl⟩
            subst hwN
            obtain ⟨gq, aq, cq, rfl, hgl, hrw, hdw⟩ := gI.g7 rfl
            have hbW := gI.out
            replace OP := Lib.hid (ownsRow_below OP.out hbW)
            replace OU := Lib.hid (ownsRow_below OU.out hbW)
            replace BWi := Lib.hid (BWi.out.trans (hbW.mono BWi.out.size))
            replace Rp := Lib.hid (row_keep Rp.out hbW)
            replace HVi := Lib.hid (HVi.out.below hbW)
            replace HTi := Lib.hid (HTi.out.below hbW)
            replace HTL := Lib.hid (kept HTL.out hbW)
            have Rq := Lib.hid hrw
            have Oq := Lib.hid hdw
            have Gq := Lib.hid hgl
            clear gI hrw hdw hbW hgl
            have BWq := Lib.hid BWi.out
            have hle := Gq.out
            have hltw : w.heap.size < wr.heap.size := (Array.getElem?_eq_some_iff.1 hrp0.out).1
            have hne : gq ≠ w.heap.size := by omega
            have hne2 : w.heap.size ≠ gq := by omega
            clear hle hltw HLD HLT HTC
            have hck : chkP T l.length = true := chkP_true.2 ⟨hT, by rw [HPK.out]; omega⟩
            have hcs := tick_cases T l.length t
            rw [HF.out] at hcs
            rcases hcs with ⟨_, h, _⟩ | ⟨hF, _, _, h1⟩ | ⟨hF, _, _, h1, h2⟩ | ⟨hF, _, _, h1, h2⟩
            · rw [hck] at h; cases h
            · subst hF
              obtain rfl : T2 = T := by rw [← HT2.out, tickT, if_neg (by rw [HF.out]; decide)]
              have e1 : decide (((T2 : Nat) : Int) < ((T2 : Nat) : Int)) = false := decide_eq_false (by omega)
              have e2 : decide (((T2 : Nat) : Int) ≤ ((t : Nat) : Int)) = true := decide_eq_true (by omega)
              have e3 : decide (((t : Nat) : Int) ≤ 1099511627776) = false := decide_eq_false (by omega)
              have e4 : decide (T2 < T2) = false := decide_eq_false (by omega)
              have e5 : decide (T2 ≤ t) = true := decide_eq_true (by omega)
              have e6 : decide (t ≤ 1099511627776) = false := decide_eq_false (by omega)
              have htl := HTL.out
              obtain ⟨lRq0, lRq1, lRq2, lRq3⟩ := four Rq.out
              obtain ⟨lRp0, lRp1, lRp2, lRp3⟩ := four Rp.out
              obtain ⟨zRp0, zRp1, zRp2, zRp3⟩ := free4 Rp.out
              go_wp2_with fail
              go_quiet (fail)
              clear lRq0 lRq1 lRq2 lRq3 lRp0 lRp1 lRp2 lRp3 zRp0 zRp1 zRp2 zRp3
              clear htl e1 e2 e4 e5 e3 e6
              obtain ⟨w22, hw22⟩ : ∃ x, x = w21.drewN nq := ⟨_, rfl⟩
              have hbd := below_drewN (Below.refl w21.heap.size w21) nq
              rw [← hw22] at hbd ⊢
              clear hw22
              replace OP := Lib.hid (ownsRow_below OP.out hbd)
              replace OU := Lib.hid (ownsRow_below OU.out hbd)
              replace Oq := Lib.hid (ownsRow_below Oq.out hbd)
              replace BWi := Lib.hid (BWi.out.trans (hbd.mono BWi.out.size))
              replace Rp := Lib.hid (row_keep Rp.out hbd)
              replace HVi := Lib.hid (HVi.out.below hbd)
              replace HTi := Lib.hid (HTi.out.below hbd)
              replace HTL := Lib.hid (kept HTL.out hbd)
              replace Rq := Lib.hid (row_keep Rq.out hbd)
              clear hbd
              obtain ⟨lRq0, lRq1, lRq2, lRq3⟩ := four Rq.out
              obtain ⟨lRp0, lRp1, lRp2, lRp3⟩ := four Rp.out
              obtain ⟨zRp0, zRp1, zRp2, zRp3⟩ := free4 Rp.out
              go_wp2
              clear lRq0 lRq1 lRq2 lRq3 lRp0 lRp1 lRp2 lRp3 zRp0 zRp1 zRp2 zRp3
              go_roundw
              case rel => exact ⟨j + 1, T2, aq, cq, by go_num, by omega, by omega, put4_row Rp.out, put4_owns (ownsRow_base Oq.out HSW.out) Rp.out, put4_owns OU.out Rp.out, put4_below BWi.out (Nat.le_refl _)⟩
              case measure => simp [intOf]; omega
            · subst hF
              obtain rfl : T2 = T := by rw [← HT2.out, tickT, if_neg (by rw [HF.out]; decide)]
              have e1 : decide (((T2 : Nat) : Int) < ((T2 : Nat) : Int)) = false := decide_eq_false (by omega)
              have e2 : decide (((T2 : Nat) : Int) ≤ ((t : Nat) : Int)) = false := decide_eq_false (by omega)
              have e4 : decide (T2 < T2) = false := decide_eq_false (by omega)
              have e5 : decide (T2 ≤ t) = false := decide_eq_false (by omega)
              have htl := HTL.out
              obtain ⟨lRq0, lRq1, lRq2, lRq3⟩ := four Rq.out
              obtain ⟨lRp0, lRp1, lRp2, lRp3⟩ := four Rp.out
              obtain ⟨zRp0, zRp1, zRp2, zRp3⟩ := free4 Rp.out
              go_wp2_with fail
              go_quiet (fail)
              clear lRq0 lRq1 lRq2 lRq3 lRp0 lRp1 lRp2 lRp3 zRp0 zRp1 zRp2 zRp3
              clear htl e1 e2 e4 e5
              obtain ⟨w22, hw22⟩ : ∃ x, x = w21.drewN nq := ⟨_, rfl⟩
              have hbd := below_drewN (Below.refl w21.heap.size w21) nq
              rw [← hw22] at hbd ⊢
              clear hw22
              replace OP := Lib.hid (ownsRow_below OP.out hbd)
              replace OU := Lib.hid (ownsRow_below OU.out hbd)
              replace Oq := Lib.hid (ownsRow_below Oq.out hbd)
              replace BWi := Lib.hid (BWi.out.trans (hbd.mono BWi.out.size))
              replace Rp := Lib.hid (row_keep Rp.out hbd)
              replace HVi := Lib.hid (HVi.out.below hbd)
              replace HTi := Lib.hid (HTi.out.below hbd)
              replace HTL := Lib.hid (kept HTL.out hbd)
              replace Rq := Lib.hid (row_keep Rq.out hbd)
              clear hbd
              obtain ⟨lRq0, lRq1, lRq2, lRq3⟩ := four Rq.out
              obtain ⟨lRp0, lRp1, lRp2, lRp3⟩ := four Rp.out
              obtain ⟨zRp0, zRp1, zRp2, zRp3⟩ := free4 Rp.out
              go_wp2
              clear lRq0 lRq1 lRq2 lRq3 lRp0 lRp1 lRp2 lRp3 zRp0 zRp1 zRp2 zRp3
              go_roundw
              case rel => exact ⟨j + 1, T2, aq, cq, by go_num, by omega, by omega, put4_row Rp.out, put4_owns (ownsRow_base Oq.out HSW.out) Rp.out, put4_owns OU.out Rp.out, put4_below BWi.out (Nat.le_refl _)⟩
              case measure => simp [intOf]; omega
            · subst hF
              obtain rfl : T2 = t := by rw [← HT2.out, tickT, if_pos HF.out]
              have e1 : decide (((T2 : Nat) : Int) < ((T : Nat) : Int)) = false := decide_eq_false (by omega)
              have e2 : decide (((T : Nat) : Int) ≤ ((T2 : Nat) : Int)) = true := decide_eq_true (by omega)
              have e3 : decide (((T2 : Nat) : Int) ≤ 1099511627776) = true := decide_eq_true (by omega)
              have e4 : decide (T2 < T) = false := decide_eq_false (by omega)
              have e5 : decide (T ≤ T2) = true := decide_eq_true (by omega)
              have e6 : decide (T2 ≤ 1099511627776) = true := decide_eq_true (by omega)
              have htl := HTL.out
              obtain ⟨lRq0, lRq1, lRq2, lRq3⟩ := four Rq.out
              obtain ⟨lRp0, lRp1, lRp2, lRp3⟩ := four Rp.out
              obtain ⟨zRp0, zRp1, zRp2, zRp3⟩ := free4 Rp.out
              go_wp2_with fail
              go_quiet (fail)
              clear lRq0 lRq1 lRq2 lRq3 lRp0 lRp1 lRp2 lRp3 zRp0 zRp1 zRp2 zRp3
              clear htl e1 e2 e4 e5 e3 e6
              obtain ⟨w22, hw22⟩ : ∃ x, x = w21.drewN nq := ⟨_, rfl⟩
              have hbd := below_drewN (Below.refl w21.heap.size w21) nq
              rw [← hw22] at hbd ⊢
              clear hw22
              replace OP := Lib.hid (ownsRow_below OP.out hbd)
              replace OU := Lib.hid (ownsRow_below OU.out hbd)
              replace Oq := Lib.hid (ownsRow_below Oq.out hbd)
              replace BWi := Lib.hid (BWi.out.trans (hbd.mono BWi.out.size))
              replace Rp := Lib.hid (row_keep Rp.out hbd)
              replace HVi := Lib.hid (HVi.out.below hbd)
              replace HTi := Lib.hid (HTi.out.below hbd)
              replace HTL := Lib.hid (kept HTL.out hbd)
              replace Rq := Lib.hid (row_keep Rq.out hbd)
              clear hbd
              obtain ⟨lRq0, lRq1, lRq2, lRq3⟩ := four Rq.out
              obtain ⟨lRp0, lRp1, lRp2, lRp3⟩ := four Rp.out
              obtain ⟨zRp0, zRp1, zRp2, zRp3⟩ := free4 Rp.out
              go_wp2
              clear lRq0 lRq1 lRq2 lRq3 lRp0 lRp1 lRp2 lRp3 zRp0 zRp1 zRp2 zRp3
              go_roundw
              case rel => exact ⟨j + 1, T2, aq, cq, by go_num, by omega, by omega, put4_row Rp.out, put4_owns (ownsRow_base Oq.out HSW.out) Rp.out, put4_owns OU.out Rp.out, put4_below BWi.out (Nat.le_refl _)⟩
              case measure => simp [intOf]; omega
        · obtain rfl : j = kt := by omega
          obtain ⟨wB, hwB⟩ : ∃ x, x = wr := ⟨_, rfl⟩
          subst hwB
          obtain ⟨j0, hji, hj0, hj1, hj2⟩ := info_parts info8
          have HJI := Lib.hid hji
          have HLN := Lib.hid (show o.length + l.length ≤ 140737488355328 by
            have h := congrArg List.length HOB.out
            rw [List.length_append, HKB.out] at h
            omega)
          have PA := Lib.hid (show IsArg wB (.slice qa pk qc) l from isArg_of_owns (by rw [HPK.out]; exact OP.out))
          clear hji
          obtain ⟨lRp0, lRp1, lRp2, lRp3⟩ := four Rp.out
          go_wp2_with (at_builtin; refine wpList_append_isArg _ rfl _ _ 24 rfl w.heap.size 5 j0 (.int .u8 0) Try.underlying24 HJI.out hj0 hj1 hj2 rfl _ _ _ rfl OU.out _ l rfl PA.out.2 HLN.out BWi.out.size ?_)
          intro v2 w41 hown hgrow
          clear lRp0 lRp1 lRp2 lRp3
          have HO2 := Lib.hid (show w41.ownsRow w.heap.size 5 1 v2 lb.length (byteCells lb) by
            rw [← HOB.out, List.length_append]
            simpa [byteCells] using hown)
          have HBF := Lib.hid (BWi.out.grown hgrow BWi.out.size (fun k hk => (OU.out.lt k hk).1))
          have HVF := Lib.hid (HV.out.below HBF.out)
          clear hown hgrow
          go_wp2_with fail
          refine (bytes_same _ _ lb _ (isArg_of_owns HO2.out).1 HVF.out.1).mono ?_
          rintro e w0 ⟨rfl, rfl⟩
          go_wp2_with fail
          refine (heads_any _).mono ?_
          rintro e w41 ⟨rfl, hb⟩
          replace HBF := Lib.hid (HBF.out.trans (hb.mono HBF.out.size))
          clear hb
          go_wp2
          go_ret
          exact ⟨rfl, HBF.out⟩

theorem portsOrder_law (w : World) (v : Value) (lb : List UInt8) (hv : IsArg w v lb) (z : Int) (hz : -9223372036854775808 ≤ z ∧ z ≤ 9223372036854775807) (tv : Value) (lt : List Nat) (ht : IsWords w tv lt) :
    Calls Try.prog 5 #[v, .int .i64 z, tv] w fun e w' => e = .returned (.bool true) ∧ Below w.heap.size w w' := by
  by_cases h1 : 40 < lb.length
  · exact portsOrder_out w v lb hv z hz tv lt ht (.inl h1)
  · by_cases h2 : z < 1
    · exact portsOrder_out w v lb hv z hz tv lt ht (.inr (.inl ⟨by omega, h2⟩))
    · by_cases h3 : 60 < lt.length
      · exact portsOrder_out w v lb hv z hz tv lt ht (.inr (.inr ⟨by omega, by omega, h3⟩))
      · exact portsOrder_in w v lb hv z hz tv lt ht ⟨by omega, by omega, by omega⟩
end Go.Proofs.Ytpnfikbpcpdgiaa
