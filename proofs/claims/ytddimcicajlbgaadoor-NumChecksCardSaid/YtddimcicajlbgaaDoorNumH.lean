/- What the examples of the law's package come to: true, where the listed variables of strconv hold what their initialisers lay. -/
import Derived.Test.YtddimcicajlbgaaDoorNumE
import Derived.Test.YtddimcicajlbgaaDoorNumL
namespace Go.Proofs.YtddimcicajlbgaaDoor
open Go.RowKit Go.Lib

theorem itoa_m12 : Lib.itoa (-12) = [45, 49, 50] := by
  unfold Lib.itoa
  rw [if_pos (by decide), show (-12 : Int).natAbs = 12 from rfl, decDigits_snoc 12 (by decide), decDigits_one' (12 / 10) (by decide)]
  rfl
theorem itoa_7 : Lib.itoa 7 = [55] := by
  unfold Lib.itoa
  rw [if_neg (by decide), show (7 : Int).toNat = 7 from rfl, decDigits_one' 7 (by decide)]
  rfl
theorem pr_m12 {x : Int} {b : Bool} (h : PR [45, 49, 50] x b) : x = -12 ∧ b = true := by
  have h2 : PR [45, 49, 50] (-12) true := .inl ⟨rfl, itoa_m12, by unfold I64; omega⟩
  exact pr_unique h h2
theorem pr_007 {x : Int} {b : Bool} (h : PR [48, 48, 55] x b) : b = false := by
  have ha : atoiAll [48, 48, 55] = .ok 7 := by decide
  have h2 := (pr_of_atoi ha (by unfold I64; omega)).2 (by rw [itoa_7]; decide)
  exact (pr_unique h h2).2

theorem isBytes_new (w : World) (cs : Array Value) (t : TypeId) (fr : Nat × Nat) (l : List UInt8) (n : Nat) (h : cs.toList = byteCells l) (hn : n = l.length) (hm : n ≤ maxLen) :
    IsBytes (w.alloc (.cells cs t fr)) (.slice (some ⟨w.heap.size, 0, none⟩) n n) l := by
  subst hn
  refine .inr ⟨w.heap.size, 0, l.length, rfl, Nat.le_refl _, hm, by simp, fun i hi => ?_⟩
  have hw : (w.alloc (.cells cs t fr)).heap[w.heap.size]? = some (.cells cs t fr) := heap_alloc_new w _
  have hcs : cs = (byteCells l).toArray := by rw [← h]
  have hc : (w.alloc (.cells cs t fr)).cell? ⟨w.heap.size, 0 + i, none⟩ = cs[i]? := by
    unfold World.cell?
    rw [hw, Nat.zero_add]
    rfl
  rw [hc, hcs]
  simp [byteCells, hi]

theorem le258 (w : World) : Calls Tryd.prog 9 #[.int .u64 258, .int .i64 2] w fun e w' => ∃ v, e = .returned v ∧ IsBytes w' v [2, 1] ∧ Below w.heap.size w w' :=
  (le_any 258 2 2 (clamped_of 2 (by decide)) w).mono fun e w' ⟨v, he, ho, hb⟩ => ⟨v, he, isBytes_of_owns (l := [2, 1]) ho, hb⟩
theorem be258 (w : World) : Calls Tryd.prog 10 #[.int .u64 258, .int .i64 2] w fun e w' => ∃ v, e = .returned v ∧ IsBytes w' v [1, 2] ∧ Below w.heap.size w w' :=
  (be_any 258 2 2 (clamped_of 2 (by decide)) w).mono fun e w' ⟨v, he, ho, hb⟩ => ⟨v, he, isBytes_of_owns (l := [1, 2]) ho, hb⟩
theorem from258le (v : Value) (w : World) (hv : IsBytes w v [2, 1]) : Calls Tryd.prog 14 #[v] w fun e w' => e = .returned (.int .u64 258) ∧ Below w.heap.size w w' := fromLe_any v _ w hv
theorem from258be (v : Value) (w : World) (hv : IsBytes w v [1, 2]) : Calls Tryd.prog 16 #[v] w fun e w' => e = .returned (.int .u64 258) ∧ Below w.heap.size w w' := fromBe_any v _ w hv
theorem check0102 (v : Value) (w : World) (hv : IsBytes w v [0, 1, 0, 2]) : Calls Tryd.prog 20 #[v] w fun e w' => e = .returned (.int .u16 65532) ∧ w = w' := check_any v _ w hv (by decide)
theorem check_nil (w : World) : Calls Tryd.prog 20 #[.slice none 0 0] w fun e w' => e = .returned (.int .u16 65535) ∧ w = w' := check_any _ [] w (.inl ⟨none, 0, rfl, rfl⟩) (by decide)
theorem dec_m12 (w : World) (hL : Laid w) : Calls Tryd.prog 22 #[.int .i64 (-12)] w fun e w' => e = .returned (.string ⟨#[45, 49, 50]⟩) ∧ Below w.heap.size w w' :=
  (dec_any (-12) (by unfold I64; omega) w hL).mono fun e w' ⟨he, hb⟩ => ⟨by rw [he, itoa_m12], hb⟩
theorem parse_m12 (w : World) (hL : Laid w) : Calls Tryd.prog 18 #[.string ⟨#[45, 49, 50]⟩] w fun e w' => e = .returned (.tuple #[.int .i64 (-12), .bool true]) ∧ Below w.heap.size w w' :=
  (parse_any ⟨#[45, 49, 50]⟩ (by decide) w hL).mono fun e w' ⟨x, b, he, hp, hb⟩ => ⟨by obtain ⟨rfl, rfl⟩ := pr_m12 hp; exact he, hb⟩
theorem parse_007 (w : World) (hL : Laid w) : Calls Tryd.prog 18 #[.string ⟨#[48, 48, 55]⟩] w fun e w' => (∃ x, e = .returned (.tuple #[.int .i64 x, .bool false])) ∧ Below w.heap.size w w' :=
  (parse_any ⟨#[48, 48, 55]⟩ (by decide) w hL).mono fun e w' ⟨x, b, he, hp, hb⟩ => ⟨⟨x, by obtain rfl := pr_007 hp; exact he⟩, hb⟩

set_option maxHeartbeats 1000000 in
theorem heads_any (w : World) (hL : Laid w) : Calls Tryd.prog 8 #[] w fun e w' => e = .returned (.bool true) ∧ Below w.heap.size w w' := by
  go_enter Tryd.func8, Tryd.ntmps8
  go_wp2_with fail
  refine (parse_m12 _ hL).mono ?_
  rintro e w1 ⟨rfl, hb1⟩
  go_wp2_with fail
  refine (parse_007 _ (hL.below hb1)).mono ?_
  rintro e w2 ⟨⟨x, rfl⟩, hb2⟩
  have hL2 := (hL.below hb1).below hb2
  have HB2 := Lib.hid (hb1.trans (hb2.mono hb1.size))
  clear hb1 hb2 hL
  go_wp2_with fail
  refine (le258 _).mono ?_
  rintro e w3 ⟨v, rfl, hv, hb⟩
  go_wp2_with fail
  refine (bytes_same _ _ [2, 1] _ (hv.below ((Below.refl _ _).alloc (Nat.le_refl _) _)) (isBytes_new _ #[.int .u8 2, .int .u8 1] _ _ [2, 1] 2 rfl rfl (by decide))).mono ?_
  rintro e w4 ⟨rfl, hw⟩
  have hB : Below w2.heap.size w2 w4 := by rw [← hw]; exact hb.alloc hb.size _
  have hL4 := hL2.below hB
  have HB4 := Lib.hid (HB2.out.trans (hB.mono HB2.out.size))
  clear hb hv hB hL2 HB2 hw
  go_wp2_with fail
  refine (be258 _).mono ?_
  rintro e w5 ⟨v, rfl, hv, hb⟩
  go_wp2_with fail
  refine (bytes_same _ _ [1, 2] _ (hv.below ((Below.refl _ _).alloc (Nat.le_refl _) _)) (isBytes_new _ #[.int .u8 1, .int .u8 2] _ _ [1, 2] 2 rfl rfl (by decide))).mono ?_
  rintro e w6 ⟨rfl, hw⟩
  have hB : Below w4.heap.size w4 w6 := by rw [← hw]; exact hb.alloc hb.size _
  have hL6 := hL4.below hB
  have HB6 := Lib.hid (HB4.out.trans (hB.mono HB4.out.size))
  clear hb hv hB hL4 HB4 hw
  go_wp2_with fail
  refine (from258le _ _ (isBytes_new _ #[.int .u8 2, .int .u8 1] _ _ [2, 1] 2 rfl rfl (by decide))).mono ?_
  rintro e w7 ⟨rfl, hb⟩
  have hB : Below w6.heap.size w6 w7 := ((Below.refl _ _).alloc (Nat.le_refl _) _).trans (hb.mono (by simp))
  have hL7 := hL6.below hB
  have HB7 := Lib.hid (HB6.out.trans (hB.mono HB6.out.size))
  clear hB hL6 HB6 hb
  go_wp2_with fail
  refine (from258be _ _ (isBytes_new _ #[.int .u8 1, .int .u8 2] _ _ [1, 2] 2 rfl rfl (by decide))).mono ?_
  rintro e w8 ⟨rfl, hb⟩
  have hB : Below w7.heap.size w7 w8 := ((Below.refl _ _).alloc (Nat.le_refl _) _).trans (hb.mono (by simp))
  have hL8 := hL7.below hB
  have HB8 := Lib.hid (HB7.out.trans (hB.mono HB7.out.size))
  clear hB hL7 HB7 hb
  go_wp2_with fail
  refine (check0102 _ _ (isBytes_new _ #[.int .u8 0, .int .u8 1, .int .u8 0, .int .u8 2] _ _ [0, 1, 0, 2] 4 rfl rfl (by decide))).mono ?_
  rintro e w9 ⟨rfl, hw⟩
  have hB : Below w8.heap.size w8 w9 := by rw [← hw]; exact (Below.refl _ _).alloc (Nat.le_refl _) _
  have hL9 := hL8.below hB
  have HB9 := Lib.hid (HB8.out.trans (hB.mono HB8.out.size))
  clear hB hL8 HB8 hw
  go_wp2_with fail
  refine (check_nil _).mono ?_
  rintro e w10 ⟨rfl, hw⟩
  have hB : Below w9.heap.size w9 w10 := by rw [← hw]; exact Below.refl _ _
  have hL10 := hL9.below hB
  have HB10 := Lib.hid (HB9.out.trans (hB.mono HB9.out.size))
  clear hB hL9 HB9 hw
  go_wp2_with fail
  refine (dec_m12 _ hL10).mono ?_
  rintro e w' ⟨rfl, hb⟩
  go_wp2
  go_ret
  exact ⟨rfl, HB10.out.trans (hb.mono HB10.out.size)⟩
end Go.Proofs.YtddimcicajlbgaaDoor
