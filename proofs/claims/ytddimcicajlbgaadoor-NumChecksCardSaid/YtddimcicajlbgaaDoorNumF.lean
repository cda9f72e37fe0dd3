/- What the document's own answers Dec and Parse are, for every number, and every text. -/
import Derived.Test.YtddimcicajlbgaaDoorNumO
import Derived.Test.YtddimcicajlbgaaDoorNumR2
namespace Go.Proofs.YtddimcicajlbgaaDoor
open Go.RowKit Go.Lib

theorem digit_cells (x : Int) (h0 : 0 ≤ x) (h1 : x < 10) : (#[Value.int .u8 (48 + x)] : Array Value).toList = byteCells [UInt8.ofNat (48 + x.toNat)] := by
  have e : ((UInt8.ofNat (48 + x.toNat)).toNat : Int) = 48 + x := by rw [ofNat48 _ (by omega)]; omega
  simp [byteCells]
  omega

theorem str_cons (b : UInt8) (l : List UInt8) : (⟨#[b]⟩ : ByteArray) ++ ⟨l.toArray⟩ = ⟨(b :: l).toArray⟩ := by
  apply ByteArray.ext
  simp
theorem decDigits_le20 (u : Nat) (h : u < 18446744073709551616) : (decDigits u).length ≤ 20 := by rw [decDigits_length]; exact Lib.nDigits_le20 u h

set_option maxHeartbeats 1000000 in
theorem refDec_any (n : Int) (hn : I64 n) (w : World) :
    Calls Tryd.prog 23 #[.int .i64 n] w fun e w' => e = .returned (.string ⟨(Lib.itoa n).toArray⟩) ∧ Below w.heap.size w w' := by
  obtain ⟨hn0, hn1⟩ := hn
  go_enter Tryd.func23, Tryd.ntmps23
  go_upto_if 8 with fail
  go_cut [3] (fun x wx => x = .int .u64 (n.natAbs : Nat) ∧ w = wx)
  case first =>
    by_cases hneg : n < 0
    · go_wp2_with fail
      go_meet
      exact ⟨by congr 1; omega, rfl⟩
    · go_wp2_with fail
      go_meet
      exact ⟨by congr 1; rw [wrap64u]; omega, rfl⟩
  case rest =>
    obtain ⟨rfl, rfl⟩ := hcut
    go_wp2
    go_loopw [3, 4] (fun u s wr => ∃ (x : Int) (l : List UInt8), 0 ≤ x ∧ x < 18446744073709551616 ∧ u = .int .u64 x ∧ s = .string ⟨l.toArray⟩ ∧ Hid (decDigits n.natAbs = decDigits x.toNat ++ l) ∧ Below w.heap.size w wr) (fun u _ _ => (RowKit.intOf u).toNat)
    case atStart => exact ⟨_, [], by omega, by omega, rfl, rfl, by show _ = _; simp, Below.refl _ _⟩
    case round =>
      obtain ⟨x, l, hx0, hx1, rfl, rfl, hd, hb⟩ := hrel
      have hz := hb.size
      have hl20 : l.length ≤ 20 := by
        have h1 := decDigits_le20 n.natAbs (by omega)
        have h2 : decDigits n.natAbs = decDigits x.toNat ++ l := hd
        rw [h2, List.length_append] at h1
        omega
      have hlm : 1 + l.length ≤ 9223372036854775807 := by omega
      by_cases h10 : 10 ≤ x
      · have hq0 : 0 ≤ x % 10 := by omega
        have hq1 : x % 10 < 10 := by omega
        have hcv := conv_bytes (isBytes_new wr #[.int .u8 (48 + x % 10)] 5 (0, 0) [UInt8.ofNat (48 + (x % 10).toNat)] 1 (digit_cells _ hq0 hq1) rfl (by decide))
        obtain ⟨B, hB⟩ : ∃ B : UInt8, B = UInt8.ofNat (48 + (x % 10).toNat) := ⟨_, rfl⟩
        rw [← hB] at hcv
        have HBB := Lib.hid hB
        clear hB
        go_wp2
        go_roundw
        case rel =>
          refine ⟨_, B :: l, by omega, by omega, rfl, by rw [str_cons], ?_, hb.alloc hz _⟩
          show _ = _
          rw [hd.out, decDigits_snoc x.toNat (by omega), HBB.out, List.append_assoc]
          congr 2
          · omega
          · simp only [List.singleton_append]; congr 3; omega
        case measure => simp [RowKit.intOf]; omega
      · have hq1 : x < 10 := by omega
        have hcv := conv_bytes (isBytes_new wr #[.int .u8 (48 + x)] 5 (0, 0) [UInt8.ofNat (48 + x.toNat)] 1 (digit_cells _ hx0 hq1) rfl (by decide))
        obtain ⟨B, hB⟩ : ∃ B : UInt8, B = UInt8.ofNat (48 + x.toNat) := ⟨_, rfl⟩
        rw [← hB] at hcv
        have HBB := Lib.hid hB
        clear hB
        have hdd : decDigits n.natAbs = B :: l := by rw [hd.out, decDigits_one' x.toNat (by omega), HBB.out]; rfl
        by_cases hneg : n < 0
        · have HF := Lib.hid (show Lib.itoa n = 45 :: B :: l by unfold Lib.itoa; rw [if_pos hneg, hdd])
          clear hdd
          go_wp2
          go_ret
          exact ⟨by rw [HF.out, str_cons, str_cons]; rfl, hb.alloc hz _⟩
        · have HF := Lib.hid (show Lib.itoa n = B :: l by unfold Lib.itoa; rw [if_neg hneg, show n.toNat = n.natAbs by omega, hdd])
          clear hdd
          go_wp2
          go_ret
          exact ⟨by rw [HF.out, str_cons]; rfl, hb.alloc hz _⟩

/-- What Parse leaves. -/
def Parsed (l : List UInt8) (w : World) (e : Ending) (w' : World) : Prop := ∃ x b, e = .returned (.tuple #[.int .i64 x, .bool b]) ∧ PR l x b ∧ Below w.heap.size w w'
theorem dv_step (l : List UInt8) (i : Nat) (c : UInt8) (x : Int) (h1 : 48 ≤ c.toNat) (hs : digs l (i + 1) = digs l i ++ [c]) (hx : x = ((dv (digs l i) % 18446744073709551616 : Nat) : Int)) :
    IntKind.u64.wrap (IntKind.u64.wrap (10 * x) + (((c.toNat : Nat) : Int) - 48)) = ((dv (digs l (i + 1)) % 18446744073709551616 : Nat) : Int) := by
  rw [hs, dv_snoc, hx, wrap64u, wrap64u]
  omega

set_option maxHeartbeats 2000000 in
theorem refParse_any (s : ByteArray) (_hs : s.size ≤ 281474976710656) (w : World) :
    Calls Tryd.prog 19 #[.string s] w fun e w' => Parsed s.data.toList w e w' := by
  have hsl : s.data.toList.length = s.size := rfl
  by_cases hlen : s.size = 0 ∨ 20 < s.size
  · have HP := Lib.hid (pr_len (l := s.data.toList) (by rw [hsl]; exact hlen))
    by_cases h0 : s.size = 0
    · have h0b : (((s.size : Nat) : Int) == 0) = true := by rw [beq_iff_eq]; omega
      have H0 := Lib.hid h0
      clear hlen h0 hsl
      go_enter Tryd.func19, Tryd.ntmps19
      go_wp2
      go_ret2
      exact ⟨_, _, rfl, HP.out, Below.refl _ _⟩
    · have h0b : (((s.size : Nat) : Int) == 0) = false := by rw [beq_eq_false_iff_ne]; omega
      have h20 : 20 < s.size := by omega
      clear hlen hsl
      go_enter Tryd.func19, Tryd.ntmps19
      go_wp2
      go_ret2
      exact ⟨_, _, rfl, HP.out, Below.refl _ _⟩
  · have hl0 : 0 < s.size := by omega
    have hl20 : ¬ 20 < s.size := by omega
    have h0b : (((s.size : Nat) : Int) == 0) = false := by rw [beq_eq_false_iff_ne]; omega
    obtain ⟨l, hl⟩ : ∃ l, l = s.data.toList := ⟨_, rfl⟩
    have hll : l.length = s.size := by rw [hl, hsl]
    have hat : ∀ i (h : i < s.size), s[i] = l[i]?.getD 0 := fun i h => by
      rw [hl, List.getElem?_eq_getElem (by rw [hsl]; exact h)]
      rfl
    rw [← hl]
    have HLL := Lib.hid hll
    have HAT := Lib.hid hat
    have HSL := Lib.hid hl
    clear hlen hsl hl hll hat
    go_enter Tryd.func19, Tryd.ntmps19
    go_wp2
    go_loop [4, 5] (fun u c => ∃ (i : Nat) (x : Int), i ≤ s.size ∧ c = .int .i64 i ∧ u = .int .u64 x ∧ Hid (x = ((dv (digs l i) % 18446744073709551616 : Nat) : Int)) ∧ Good l i) (fun _ c => s.size - (RowKit.intOf c).toNat)
    case atStart => exact ⟨0, 0, Nat.zero_le _, rfl, rfl, by show _ = _; rw [digs_zero]; rfl, good_zero l⟩
    case round =>
      obtain ⟨i, x, hi, rfl, rfl, hx, hg⟩ := hrel
      by_cases hlt : i < s.size
      · obtain ⟨c, hc⟩ : ∃ c, c = l[i]?.getD 0 := ⟨_, rfl⟩
        have hsi : s[i] = c := by rw [HAT.out i hlt, hc]
        have hcb := c.toNat_lt
        have HC := Lib.hid hc
        clear hc
        by_cases h45 : i = 0 ∧ c = 45
        · obtain ⟨rfl, rfl⟩ := h45
          go_wp2
          go_round
          case rel =>
            have h0 : l[0]?.getD 0 = 45 := HC.out.symm
            exact ⟨1, x, by omega, rfl, rfl, by show _ = _; rw [digs_skip l h0, ← digs_zero l]; exact hx.out, good_step hg (.inl ⟨rfl, h0⟩)⟩
          case measure => simp [RowKit.intOf]; omega
        · have Hn45 := Lib.hid (show ¬ (i = 0 ∧ l[0]?.getD 0 = 45) from fun ⟨e, e2⟩ => h45 ⟨e, by rw [HC.out, e]; exact e2⟩)
          by_cases hdig : 48 ≤ c.toNat ∧ c.toNat ≤ 57
          · obtain ⟨hd1, hd2⟩ := hdig
            have h45b : (((c.toNat : Nat) : Int) == 45) = false := by rw [beq_eq_false_iff_ne]; omega
            have Hst := Lib.hid (show digs l (i + 1) = digs l i ++ [c] by rw [HC.out]; exact digs_step l i (by rw [HLL.out]; exact hlt) Hn45.out)
            have Hdv := Lib.hid (dv_step l i c x hd1 Hst.out hx.out)
            have Hgd := Lib.hid (good_step hg (.inr (by rw [← HC.out]; exact ⟨hd1, hd2⟩)))
            clear h45
            by_cases hi0 : i = 0
            · subst hi0
              go_wp2
              go_round
              case rel => exact ⟨1, _, by omega, rfl, rfl, Hdv.out, Hgd.out⟩
              case measure => simp [RowKit.intOf]; omega
            · have hi0b : (((i : Nat) : Int) == 0) = false := by rw [beq_eq_false_iff_ne]; omega
              go_wp2
              go_round
              case rel => exact ⟨i + 1, _, by omega, by go_num, rfl, Hdv.out, Hgd.out⟩
              case measure => simp [RowKit.intOf]; omega
          · have HP := Lib.hid (pr_bad (l := l) (i := i) (by rw [HLL.out]; exact hlt) Hn45.out (by rw [← HC.out]; exact hdig))
            by_cases hi0 : i = 0
            · have h45b : (((c.toNat : Nat) : Int) == 45) = false := by
                rw [beq_eq_false_iff_ne]; intro e; exact h45 ⟨hi0, UInt8.toNat_inj.1 (by show c.toNat = 45; omega)⟩
              subst hi0
              clear h45
              by_cases h48 : c.toNat < 48
              all_goals
                go_wp2
                go_ret2
                exact ⟨_, _, rfl, HP.out, Below.refl _ _⟩
            · have hi0b : (((i : Nat) : Int) == 0) = false := by rw [beq_eq_false_iff_ne]; omega
              clear h45
              by_cases h48 : c.toNat < 48
              all_goals
                go_wp2
                go_ret2
                exact ⟨_, _, rfl, HP.out, Below.refl _ _⟩
      · obtain rfl : i = s.size := by omega
        obtain ⟨c, hc⟩ : ∃ c, c = l[0]?.getD 0 := ⟨_, rfl⟩
        have hsi : s[0] = c := by rw [HAT.out 0 hl0, hc]
        have HC := Lib.hid hc
        clear hc
        have hxd : x = ((dv (l.drop (if l[0]?.getD 0 = 45 then 1 else 0)) % 18446744073709551616 : Nat) : Int) := by rw [← digs_all, HLL.out]; exact hx.out
        have Hxd := Lib.hid hxd
        clear hxd
        by_cases h45 : c = 45
        · subst h45
          have hy : wrap64 (IntKind.u64.wrap (-x)) = asInt (decide (l[0]?.getD 0 = 45)) x := by
            rw [decide_eq_true HC.out.symm]; unfold asInt
            rw [if_pos rfl, Int.zero_sub, IntWalk.i64_left]
          obtain ⟨y, hy2⟩ : ∃ y, y = wrap64 (IntKind.u64.wrap (-x)) := ⟨_, rfl⟩
          have hyI : I64 y := by rw [hy2]; unfold I64 wrap64; omega
          have hend := pr_end l y hyI (by rw [hy2, hy, ← Hxd.out])
          have HE := Lib.hid hend
          have HY := Lib.hid hy2
          clear hend hy hy2
          go_wp2_with fail
          rw [← HY.out]
          refine (refDec_any y hyI _).mono ?_
          rintro e w1 ⟨rfl, hb1⟩
          by_cases he : Lib.itoa y = l
          · have heq : (Lib.itoa y == s.toList) = true := by rw [ByteArray.toList_eq, beq_iff_eq]; exact he.trans HSL.out
            have HP := Lib.hid (HE.out.1 he)
            clear he
            go_wp2
            go_ret2
            exact ⟨y, true, rfl, HP.out, hb1⟩
          · have heq : (Lib.itoa y == s.toList) = false := by rw [ByteArray.toList_eq, beq_eq_false_iff_ne]; intro e; exact he (e.trans HSL.out.symm)
            have HP := Lib.hid (HE.out.2 he)
            clear he
            go_wp2
            go_ret2
            exact ⟨0, false, rfl, HP.out, hb1⟩
        · have h45b : (((c.toNat : Nat) : Int) == 45) = false := by
            rw [beq_eq_false_iff_ne]; intro e; exact h45 (UInt8.toNat_inj.1 (by show c.toNat = 45; omega))
          have hy : wrap64 x = asInt (decide (l[0]?.getD 0 = 45)) x := by
            rw [decide_eq_false (by rw [← HC.out]; exact h45)]; unfold asInt
            rw [if_neg (by decide), IntWalk.i64_left]
          obtain ⟨y, hy2⟩ : ∃ y, y = wrap64 x := ⟨_, rfl⟩
          have hyI : I64 y := by rw [hy2]; unfold I64 wrap64; omega
          have hend := pr_end l y hyI (by rw [hy2, hy, ← Hxd.out])
          have HE := Lib.hid hend
          have HY := Lib.hid hy2
          clear hend hy hy2 h45
          go_wp2_with fail
          rw [← HY.out]
          refine (refDec_any y hyI _).mono ?_
          rintro e w1 ⟨rfl, hb1⟩
          by_cases he : Lib.itoa y = l
          · have heq : (Lib.itoa y == s.toList) = true := by rw [ByteArray.toList_eq, beq_iff_eq]; exact he.trans HSL.out
            have HP := Lib.hid (HE.out.1 he)
            clear he
            go_wp2
            go_ret2
            exact ⟨y, true, rfl, HP.out, hb1⟩
          · have heq : (Lib.itoa y == s.toList) = false := by rw [ByteArray.toList_eq, beq_eq_false_iff_ne]; intro e; exact he (e.trans HSL.out.symm)
            have HP := Lib.hid (HE.out.2 he)
            clear he
            go_wp2
            go_ret2
            exact ⟨0, false, rfl, HP.out, hb1⟩
end Go.Proofs.YtddimcicajlbgaaDoor
