/- The contracts with what is answered by name; what the examples of the law's package come to: true. -/
import Derived.Test.YtiapamfbjjclbaaMemF
namespace Go.Proofs.Ytiapamfbjjclbaa
open Go.RowKit Go.Lib

theorem new_this (z : Int) (F : Int) (G : List UInt8) (n : Nat) (hF : (if 0 ≤ z ∧ z ≤ 8192 then (0 : Int) else 2) = F) (hG : (if 0 ≤ z ∧ z ≤ 8192 then List.replicate z.toNat (0 : UInt8) else []) = G) (hn : G.length = n) (w : World) :
    Calls Try.prog 19 #[.int .i64 z] w fun e w' => ∃ a c, e = .returned (.tuple #[.agg #[.slice a n c], .int .i64 F]) ∧ IsArg w' (.slice a n c) G ∧ Below w.heap.size w w' :=
  (new_any z w).mono fun e w' ⟨r, h1, h2, h3⟩ => by
    rw [hF] at h1
    rw [hG] at h2
    obtain ⟨a, m, c, rfl, hm⟩ := h2.shape2
    rw [hn] at hm
    subst hm
    exact ⟨a, c, h1, h2, h3⟩
theorem refNew_this (z : Int) (F : Int) (G : List UInt8) (n : Nat) (hF : (if 0 ≤ z ∧ z ≤ 8192 then (0 : Int) else 2) = F) (hG : (if 0 ≤ z ∧ z ≤ 8192 then List.replicate z.toNat (0 : UInt8) else []) = G) (hn : G.length = n) (w : World) :
    Calls Try.prog 20 #[.int .i64 z] w fun e w' => ∃ a c, e = .returned (.tuple #[.agg #[.slice a n c], .int .i64 F]) ∧ IsArg w' (.slice a n c) G ∧ Below w.heap.size w w' :=
  (refNew_any z w).mono fun e w' ⟨r, h1, h2, h3⟩ => by
    rw [hF] at h1
    rw [hG] at h2
    obtain ⟨a, m, c, rfl, hm⟩ := h2.shape2
    rw [hn] at hm
    subst hm
    exact ⟨a, c, h1, h2, h3⟩
theorem get_this (v : Value) (l : List UInt8) (x y : Int) (F : Int) (G : List UInt8) (n : Nat) (hF : faultOf l.length x y = F) (hG : getOf l x y = G) (hn : G.length = n) (hl : l.length ≤ maxLen) (w : World) (hv : IsArg w v l) :
    Calls Try.prog 8 #[.agg #[v], .int .i64 x, .int .i64 y] w fun e w' => ∃ a c, e = .returned (.tuple #[.slice a n c, .int .i64 F]) ∧ IsArg w' (.slice a n c) G ∧ Below w.heap.size w w' :=
  (get_any v l w hv x y hl).mono fun e w' ⟨r, h1, h2, h3⟩ => by
    rw [hF] at h1
    rw [hG] at h2
    have h4 := isArg_of_owns h2
    obtain ⟨a, m, c, rfl, hm⟩ := h4.shape2
    rw [hn] at hm
    subst hm
    exact ⟨a, c, h1, h4, h3⟩
theorem refGet_this (v : Value) (l : List UInt8) (x y : Int) (hy : -9223372036854775808 ≤ y ∧ y ≤ 9223372036854775807) (F : Int) (G : List UInt8) (n : Nat) (hF : faultOf l.length x y = F) (hG : getOf l x y = G) (hn : G.length = n) (hl : l.length ≤ maxLen) (w : World) (hv : IsArg w v l) :
    Calls Try.prog 12 #[.agg #[v], .int .i64 x, .int .i64 y] w fun e w' => ∃ a c, e = .returned (.tuple #[.slice a n c, .int .i64 F]) ∧ IsArg w' (.slice a n c) G ∧ Below w.heap.size w w' :=
  (refGet_any v l w hv x y hy hl).mono fun e w' ⟨r, h1, h2, h3⟩ => by
    rw [hF] at h1
    rw [hG] at h2
    have h4 := isArg_of_owns h2
    obtain ⟨a, m, c, rfl, hm⟩ := h4.shape2
    rw [hn] at hm
    subst hm
    exact ⟨a, c, h1, h4, h3⟩
theorem put_this (v : Value) (l : List UInt8) (u : Value) (m : List UInt8) (x : Int) (F : Int) (G : List UInt8) (n : Nat) (hF : faultOf l.length x m.length = F) (hG : putOf l x m = G) (hn : G.length = n) (hl : l.length ≤ 140737488355328) (hm : m.length ≤ 140737488355328) (w : World) (hv : IsArg w v l) (hu : IsArg w u m) :
    Calls Try.prog 13 #[.agg #[v], .int .i64 x, u] w fun e w' => ∃ a c, e = .returned (.tuple #[.agg #[.slice a n c], .int .i64 F]) ∧ IsArg w' (.slice a n c) G ∧ Below w.heap.size w w' :=
  (put_any v l u m w hv hu x hl hm).mono fun e w' ⟨r, h1, h2, h3⟩ => by
    rw [hF] at h1
    rw [hG] at h2
    have h4 := isArg_of_owns h2
    obtain ⟨a, m, c, rfl, hm⟩ := h4.shape2
    rw [hn] at hm
    subst hm
    exact ⟨a, c, h1, h4, h3⟩
theorem refPut_this (v : Value) (l : List UInt8) (u : Value) (m : List UInt8) (x : Int) (F : Int) (G : List UInt8) (n : Nat) (hF : faultOf l.length x m.length = F) (hG : putOf l x m = G) (hn : G.length = n) (hl : l.length ≤ 140737488355328) (hm : m.length ≤ 140737488355328) (w : World) (hv : IsArg w v l) (hu : IsArg w u m) :
    Calls Try.prog 14 #[.agg #[v], .int .i64 x, u] w fun e w' => ∃ a c, e = .returned (.tuple #[.agg #[.slice a n c], .int .i64 F]) ∧ IsArg w' (.slice a n c) G ∧ Below w.heap.size w w' :=
  (refPut_any v l u m w hv hu x hl hm).mono fun e w' ⟨r, h1, h2, h3⟩ => by
    rw [hF] at h1
    rw [hG] at h2
    have h4 := h2.arg hv h3
    obtain ⟨a, m, c, rfl, hm⟩ := h4.shape2
    rw [hn] at hm
    subst hm
    exact ⟨a, c, h1, h4, h3⟩
theorem putNum_this (v : Value) (l : List UInt8) (x y : Int) (k : Nat) (F : Int) (G : List UInt8) (n : Nat) (hF : numFaultOf l.length x y = F) (hG : putNumOf l x y k = G) (hn : G.length = n) (hl : l.length ≤ 140737488355328) (w : World) (hv : IsArg w v l) :
    Calls Try.prog 17 #[.agg #[v], .int .i64 x, .int .i64 y, .int .u64 k] w fun e w' => ∃ a c, e = .returned (.tuple #[.agg #[.slice a n c], .int .i64 F]) ∧ IsArg w' (.slice a n c) G ∧ Below w.heap.size w w' :=
  (putNum_any v l w hv x y k hl).mono fun e w' ⟨r, h1, h2, h3⟩ => by
    rw [hF] at h1
    rw [hG] at h2
    have h4 := h2.arg hv h3
    obtain ⟨a, m, c, rfl, hm⟩ := h4.shape2
    rw [hn] at hm
    subst hm
    exact ⟨a, c, h1, h4, h3⟩
theorem refPutNum_this (v : Value) (l : List UInt8) (x y : Int) (k : Nat) (hk : k < 18446744073709551616) (F : Int) (G : List UInt8) (n : Nat) (hF : numFaultOf l.length x y = F) (hG : putNumOf l x y k = G) (hn : G.length = n) (hl : l.length ≤ 140737488355328) (w : World) (hv : IsArg w v l) :
    Calls Try.prog 18 #[.agg #[v], .int .i64 x, .int .i64 y, .int .u64 k] w fun e w' => ∃ a c, e = .returned (.tuple #[.agg #[.slice a n c], .int .i64 F]) ∧ IsArg w' (.slice a n c) G ∧ Below w.heap.size w w' :=
  (refPutNum_any v l w hv x y k hk hl).mono fun e w' ⟨r, h1, h2, h3⟩ => by
    rw [hF] at h1
    rw [hG] at h2
    have h4 := h2.arg hv h3
    obtain ⟨a, m, c, rfl, hm⟩ := h4.shape2
    rw [hn] at hm
    subst hm
    exact ⟨a, c, h1, h4, h3⟩

theorem num_this (v : Value) (l : List UInt8) (x y : Int) (V F : Int) (hV : (numOf l x y : Int) = V) (hF : numFaultOf l.length x y = F) (hl : l.length ≤ maxLen) (w : World) (hv : IsArg w v l) :
    Calls Try.prog 9 #[.agg #[v], .int .i64 x, .int .i64 y] w fun e w' => e = .returned (.tuple #[.int .u64 V, .int .i64 F]) ∧ Below w.heap.size w w' :=
  (num_any v l w hv x y hl).mono fun e w' ⟨h1, h2⟩ => by
    rw [hV, hF] at h1
    exact ⟨h1, h2⟩
theorem refNum_this (v : Value) (l : List UInt8) (x y : Int) (V F : Int) (hV : (numOf l x y : Int) = V) (hF : numFaultOf l.length x y = F) (hl : l.length ≤ maxLen) (w : World) (hv : IsArg w v l) :
    Calls Try.prog 16 #[.agg #[v], .int .i64 x, .int .i64 y] w fun e w' => e = .returned (.tuple #[.int .u64 V, .int .i64 F]) ∧ Below w.heap.size w w' :=
  (refNum_any v l w hv x y hl).mono fun e w' ⟨h1, h2⟩ => by
    rw [hV, hF] at h1
    exact ⟨h1, h2⟩

theorem one_new (w : World) (v : Value) (t : TypeId) (fr : Nat × Nat) : (w.alloc (.cells #[v] t fr)).cell? ⟨w.heap.size, 0, none⟩ = some v := by
  have h1 := heap_alloc_new w (.cells #[v] t fr)
  unfold World.cell?
  rw [h1]
  rfl
theorem kept {w w' : World} {a : Addr} {v : Value} (h : w.cell? a = some v) (hb : Below w.heap.size w w') : w'.cell? a = some v := by
  rw [hb.cell (World.block_lt_of_cell? _ _ h)]; exact h

set_option maxHeartbeats 4000000 in
theorem heads_any (w : World) : Calls Try.prog 7 #[] w fun e w' => e = .returned (.bool true) ∧ Below w.heap.size w w' := by
  go_enter Try.func7, Try.ntmps7
  go_wp2_with fail
  refine (new_this 4 0 [0, 0, 0, 0] 4 rfl rfl rfl _).mono ?_
  rintro e w1 ⟨ma, mc, rfl, hm, hb⟩
  have HW1 := Lib.hid hb
  have HM := Lib.hid hm
  clear hb hm
  have bA := Lib.hid (((Below.refl w1.heap.size w1).alloc (Nat.le_refl _) (.cells #[.slice ma 4 mc] 24)).alloc (by simp) (.cells #[.int .u8 7] 5))
  have cA := Lib.hid (kept (one_new w1 (.slice ma 4 mc) 24 (0, 0)) ((Below.refl _ _).alloc (Nat.le_refl _) (.cells #[.int .u8 7] 5)))
  have uA := Lib.hid (isArg_new (w1.alloc (.cells #[.slice ma 4 mc] 24)) #[.int .u8 7] 5 (0, 0) [7] 1 rfl rfl (by decide))
  go_wp2_with fail
  refine (put_this _ [0, 0, 0, 0] _ [7] 3 0 [0, 0, 0, 7] 4 rfl rfl rfl (by decide) (by decide) _ (HM.out.below bA.out) (by simpa using uA.out)).mono ?_
  rintro e w2 ⟨aa, ac, rfl, ha, hb⟩
  have HW2 := Lib.hid (HW1.out.trans ((bA.out.trans (hb.mono (by simp; omega))).mono HW1.out.size))
  have HM2 := Lib.hid (HM.out.below (bA.out.trans (hb.mono (by simp; omega))))
  have C2 := Lib.hid (kept cA.out hb)
  have HA := Lib.hid ha
  clear hb ha
  have bB := Lib.hid (((Below.refl w2.heap.size w2).alloc (Nat.le_refl _) (.cells #[.slice aa 4 ac] 24)).alloc (by simp) (.cells #[.int .u8 7] 5))
  have cB := Lib.hid (kept (one_new w2 (.slice aa 4 ac) 24 (0, 0)) ((Below.refl _ _).alloc (Nat.le_refl _) (.cells #[.int .u8 7] 5)))
  have uB := Lib.hid (isArg_new (w2.alloc (.cells #[.slice aa 4 ac] 24)) #[.int .u8 7] 5 (0, 0) [7] 1 rfl rfl (by decide))
  have l1 := kept C2.out ((Below.refl _ _).alloc (Nat.le_refl _) (.cells #[.slice aa 4 ac] 24))
  go_wp2_with fail
  refine (put_this _ [0, 0, 0, 0] _ [7] 4 40 [0, 0, 0, 0] 4 rfl rfl rfl (by decide) (by decide) _ (HM2.out.below bB.out) (by simpa using uB.out)).mono ?_
  rintro e w3 ⟨ba, bc, rfl, hq, hb⟩
  clear hq
  have HW3 := Lib.hid (HW2.out.trans ((bB.out.trans (hb.mono (by simp; omega))).mono HW2.out.size))
  have HA3 := Lib.hid (HA.out.below (bB.out.trans (hb.mono (by simp; omega))))
  have C3 := Lib.hid (kept C2.out (bB.out.trans (hb.mono (by simp; omega))))
  have D3 := Lib.hid (kept cB.out hb)
  clear hb l1
  have bC := Lib.hid ((Below.refl w3.heap.size w3).alloc (Nat.le_refl _) (.cells #[.slice ba 4 bc] 24))
  have l1 := kept D3.out bC.out
  go_wp2_with fail
  refine (get_this _ [0, 0, 0, 7] 2 2 0 [0, 7] 2 rfl rfl rfl (by decide) _ (HA3.out.below bC.out)).mono ?_
  rintro e w4 ⟨ga, gc, rfl, hg, hb⟩
  have b4 := Lib.hid (bC.out.trans (hb.mono (by simp)))
  have HW4 := Lib.hid (HW3.out.trans (b4.out.mono HW3.out.size))
  have HA4 := Lib.hid (HA3.out.below b4.out)
  have C4 := Lib.hid (kept C3.out b4.out)
  have HG4 := Lib.hid hg
  have l2 := kept D3.out b4.out
  clear hb hg l1
  go_wp2_with fail
  refine (putNum_this _ [0, 0, 0, 7] 0 2 258 0 [2, 1, 0, 7] 4 rfl rfl rfl (by decide) _ HA4.out).mono ?_
  rintro e w5 ⟨pa, pc, rfl, hp, hb⟩
  have HW5 := Lib.hid (HW4.out.trans (hb.mono HW4.out.size))
  have HG5 := Lib.hid (HG4.out.below hb)
  have C5 := Lib.hid (kept C4.out hb)
  have HP5 := Lib.hid hp
  clear hb hp l2
  have bE := Lib.hid ((Below.refl w5.heap.size w5).alloc (Nat.le_refl _) (.cells #[.slice pa 4 pc] 24))
  go_wp2_with fail
  refine (num_this _ [2, 1, 0, 7] 0 2 258 0 (by decide) (by decide) (by decide) _ (HP5.out.below bE.out)).mono ?_
  rintro e w6 ⟨rfl, hb⟩
  have b6 := Lib.hid (bE.out.trans (hb.mono (by simp)))
  have HW6 := Lib.hid (HW5.out.trans (b6.out.mono HW5.out.size))
  have HG6 := Lib.hid (HG5.out.below b6.out)
  have HP6 := Lib.hid (HP5.out.below b6.out)
  have P6 := Lib.hid (kept (one_new w5 (.slice pa 4 pc) 24 (0, 0)) hb)
  have l3 := kept C5.out b6.out
  clear hb
  go_wp2_with fail
  refine (check_any _ _ _ (by decide) true (by decide) _).mono ?_
  rintro e w7 ⟨rfl, hb⟩
  have HW7 := Lib.hid (HW6.out.trans (hb.mono HW6.out.size))
  have HG7 := Lib.hid (HG6.out.below hb)
  have HP7 := Lib.hid (HP6.out.below hb)
  have P7 := Lib.hid (kept P6.out hb)
  clear hb l3
  have bF := Lib.hid ((Below.refl w7.heap.size w7).alloc (Nat.le_refl _) (.cells #[.int .u8 0, .int .u8 7] 5))
  have uF := Lib.hid (isArg_new w7 #[.int .u8 0, .int .u8 7] 5 (0, 0) [0, 7] 2 rfl rfl (by decide))
  go_wp2_with fail
  refine (bytes_same _ _ [0, 7] _ (HG7.out.below bF.out).1 uF.out.1).mono ?_
  rintro e w8 ⟨rfl, rfl⟩
  have l4 := kept P7.out bF.out
  have bG := Lib.hid (bF.out.alloc (by simp) (.cells #[.int .u8 2, .int .u8 1, .int .u8 0, .int .u8 7] 5))
  have uG := Lib.hid (isArg_new (w7.alloc (.cells #[.int .u8 0, .int .u8 7] 5)) #[.int .u8 2, .int .u8 1, .int .u8 0, .int .u8 7] 5 (0, 0) [2, 1, 0, 7] 4 rfl rfl (by decide))
  go_wp2_with fail
  refine (bytes_same _ _ [2, 1, 0, 7] _ (HP7.out.below bG.out).1 (by simpa using uG.out.1)).mono ?_
  rintro e w8 ⟨rfl, rfl⟩
  go_wp2
  go_ret
  exact ⟨rfl, HW7.out.trans (bG.out.mono HW7.out.size)⟩
end Go.Proofs.Ytiapamfbjjclbaa
