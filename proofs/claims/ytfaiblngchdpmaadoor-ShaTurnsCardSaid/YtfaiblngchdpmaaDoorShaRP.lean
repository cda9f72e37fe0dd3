/- What the document's own Pad answers, for every number of at most a million, and below 0. -/
import Derived.Test.YtfaiblngchdpmaaDoorShaM
import Derived.Test.YtfaiblngchdpmaaDoorRefBe
import Derived.Test.YtfaiblngchdpmaaDoorArg
namespace Go.Proofs.YtfaiblngchdpmaaDoor
open Go.RowKit Go.Lib

set_option maxHeartbeats 400000 in
theorem refPad_neg (z : Int) (h : z < 0) (w : World) : Calls Tryd.prog 14 #[.int .i64 z] w fun e w' => e = .returned (.slice none 0 0) ∧ w = w' := by
  go_enter Tryd.func14, Tryd.ntmps14
  go_wp2_with fail
  go_ret
  exact ⟨rfl, rfl⟩
/-- How long a slice is. -/
def lenIn : Value → Nat
  | .slice _ n _ => n
  | _ => 0
theorem replicate_snoc (k : Nat) : byteCells (128 :: List.replicate (k + 1) 0) = byteCells (128 :: List.replicate k 0) ++ [.int .u8 0] := by
  rw [List.replicate_succ', ← List.cons_append, byteCells_append]
  rfl
set_option maxHeartbeats 2000000 in
theorem refPad_any (n : Nat) (hn : n ≤ 1000000) (w : World) :
    Calls Tryd.prog 14 #[.int .i64 n] w fun e w' => ∃ v, e = .returned v ∧ w'.ownsRow w.heap.size 5 1 v (padOf n).length (byteCells (padOf n)) ∧ Below w.heap.size w w' := by
  obtain ⟨i0, hi, hz0, hz1, hz2⟩ := info_parts info8
  have hnn : ¬ (n : Int) < 0 := by omega
  obtain ⟨k, hk⟩ : ∃ k, k = padZeros n := ⟨_, rfl⟩
  have hk63 : k ≤ 63 := by rw [hk]; unfold padZeros; omega
  have HPAD := Lib.hid (show byteCells (128 :: List.replicate k 0) ++ byteCells (beB (8 * n) 8) = byteCells (padOf n) by rw [hk, ← byteCells_append]; rfl)
  have HLEN := Lib.hid (show (padOf n).length = 1 + k + 8 by rw [padOf_length, hk]; omega)
  have htest : ∀ j : Nat, j ≤ k → (((n : Int) % 64 + ((1 + j : Nat) : Int) + 8) % 64 = 0 ↔ j = k) := fun j hj => by rw [hk] at hj ⊢; unfold padZeros at hj ⊢; omega
  have HT := Lib.hid htest
  have hown0 : (w.alloc (.cells #[.int .u8 128] 5)).ownsRow w.heap.size 5 1 (.slice (some ⟨w.heap.size, 0, none⟩) 1 1) 1 (byteCells [128]) :=
    ⟨rfl, .inr ⟨w.heap.size, 1, _, rfl, Nat.le_refl _, heap_alloc_new w _, Nat.le_refl _, by decide, rfl, rfl⟩⟩
  have H0 := Lib.hid hown0
  clear hk htest hown0
  go_enter Tryd.func14, Tryd.ntmps14
  go_wp2_with fail
  go_loopw [3] (fun v wr => ∃ (j L c1 : Nat) (a1 : Option Addr), v = .slice a1 L c1 ∧ Hid (L = 1 + j) ∧ j ≤ k ∧ wr.ownsRow w.heap.size 5 1 (.slice a1 L c1) L (byteCells (128 :: List.replicate j 0)) ∧ Below w.heap.size w wr) (fun v _ => 65 - lenIn v)
  case atStart => exact ⟨0, 1, 1, _, rfl, Lib.hid rfl, Nat.zero_le _, H0.out, (Below.refl _ _).alloc (Nat.le_refl _) _⟩
  case round =>
    obtain ⟨j, L, c1, a1, rfl, HLj, hj, hown, hb⟩ := hrel
    have hsz := hb.size
    have ht := HT.out j hj
    rw [← HLj.out] at ht
    have hL72 : L ≤ 64 := by have := HLj.out; omega
    by_cases hlt : j = k
    · have hq : (((n : Int) % 64 + (L : Int) + 8) % 64 != 0) = false := by
        have : (((n : Int) % 64 + (L : Int) + 8) % 64 == 0) = true := by rw [beq_iff_eq]; exact ht.2 hlt
        rw [bne, this]; rfl
      have hw8 : IntKind.u64.wrap (8 * (n : Int)) = ((8 * n : Nat) : Int) := by rw [wrap64u]; omega
      have HJ := Lib.hid hlt
      clear ht hlt
      go_wp2_with fail
      refine (refBe_any (8 * n) 8 8 (clamped_of 8 (by decide)) (by omega) _).mono ?_
      rintro e w1 ⟨r, rfl, hor, hb1⟩
      have har := isArg_of_owns (l := beB (8 * n) 8) (by rw [beB_length]; exact hor)
      have hown1 := ownsRow_below hown (hb1.mono (Nat.le_refl _))
      have hB1 := hb.trans (hb1.mono hsz)
      have hsz1 := hB1.size
      have HAR := Lib.hid har
      have HB1 := Lib.hid hB1
      obtain ⟨a2, c2, hs2⟩ := har.1.shape
      rw [beB_length] at hs2
      subst hs2
      clear har hb1 hB1 hor hown hb
      go_wp2_with (at_builtin; refine wpList_append_isArg _ rfl (.tmp 18) (.tmp 22) 24 rfl w.heap.size 5 i0 (.int .u8 0) Tryd.underlying24 hi hz0 hz1 hz2 rfl _ _ _ rfl hown1 _ (beB (8 * n) 8) rfl ?c1 ?c2 ?c3 ?_)
      case c1 => exact HAR.out.2
      case c2 => rw [beB_length]; omega
      case c3 => exact hsz1
      intro v2 w2 hown2 hgrow2
      have hB2 := HB1.out.grown hgrow2 hsz1 (fun q hq => (hown1.lt q hq).1)
      rw [HJ.out, HPAD.out] at hown2
      go_wp2
      go_ret
      exact ⟨_, rfl, by rw [HLEN.out, ← HJ.out, ← HLj.out]; exact hown2, hB2⟩
    · have hq : (((n : Int) % 64 + (L : Int) + 8) % 64 != 0) = true := by rw [bne_iff_ne]; exact fun h => hlt (ht.1 h)
      have hjk : j < k := by omega
      clear ht hlt
      go_wp2_with (at_builtin; refine wpList_append_own _ rfl _ _ 24 rfl w.heap.size 5 i0 (.int .u8 0) 1 1 Tryd.underlying24 hi hz0 hz1 hz2 rfl (by decide) _ _ _ rfl (hown.alloc _) ⟨wr.heap.size, 0, none⟩ 1 1 [.int .u8 0] rfl rfl ?c1 ?c2 ?c3 ?c4 ?c5 ?_)
      case c1 => exact cell_one_new _ _ _
      case c2 => intro u hu; simp at hu; subst hu; rfl
      case c3 => unfold maxLen; omega
      case c4 => omega
      case c5 => simp; omega
      intro v2 w2 hown2 hgrow2 _
      have hB2 := (hb.alloc hsz _).grown hgrow2 (by simp; omega) (fun q hq => (hown.lt q hq).1)
      have hib2 := isBytes_of_owns (l := 128 :: List.replicate (j + 1) 0) (by rw [replicate_snoc]; have h1 := HLj.out; simpa [h1, Nat.add_comm] using hown2)
      obtain ⟨a2, c2, hs2⟩ := hib2.shape
      have hs3 : v2 = .slice a2 (L + 1) c2 := by rw [hs2]; have h1 := HLj.out; simp; omega
      subst hs3
      go_wp2
      go_roundw
      case rel => exact ⟨j + 1, _, c2, a2, rfl, Lib.hid (by have := HLj.out; omega), hjk, by rw [replicate_snoc]; exact hown2, hB2⟩
      case measure => simp [lenIn]; omega
end Go.Proofs.YtfaiblngchdpmaaDoor
