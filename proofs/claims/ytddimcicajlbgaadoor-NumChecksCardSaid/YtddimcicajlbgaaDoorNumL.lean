/- What num.Dec and num.Parse answer, for every number and every text of at most 2^48 bytes, where the listed variables of strconv hold what their initialisers lay. -/
import Derived.Test.YtddimcicajlbgaaDoorRows
import Derived.Test.YtddimcicajlbgaaDoorShelf
import Derived.Test.YtddimcicajlbgaaDoorNumR
import Derived.WalkKit
import Derived.WalkSpells
import Derived.WalkLawsBesides
import Derived.Lib.Hide
namespace Go.Proofs.YtddimcicajlbgaaDoor
open Go.RowKit Go.Lib

theorem gPow : Tryd.prog.globalNamed "internal/strconv.uint64pow10" = some 2 := by kernel_rfl
theorem gSyn : Tryd.prog.globalNamed "strconv.ErrSyntax" = some 0 := by kernel_rfl
theorem gRng : Tryd.prog.globalNamed "strconv.ErrRange" = some 1 := by kernel_rfl

/-- What the calls need of the package-level variables that are listed. -/
structure Laid (w : World) : Prop where
  tab : Lib.TabIs Tryd.prog w "internal/strconv.uint64pow10" .u64 Lib.pow10Tab
  syn : ∃ tp p, w.var? Tryd.prog "strconv.ErrSyntax" = some #[.iface tp p]
  rng : ∃ tp p, w.var? Tryd.prog "strconv.ErrRange" = some #[.iface tp p]
theorem var_kept {P : Program} {n : String} {g : Nat} {w w' : World} {cs : Array Value} (hg : P.globalNamed n = some g) (h : w.var? P n = some cs) (hb : Below w.heap.size w w') : w'.var? P n = some cs := by
  unfold World.var? at h ⊢
  rw [hg] at h ⊢
  simp only [Option.bind_some] at h ⊢
  have hlt : g < w.heap.size := by
    rcases Nat.lt_or_ge g w.heap.size with h' | h'
    · exact h'
    · rw [Array.getElem?_eq_none h'] at h; cases h
  rw [hb.block g hlt]
  exact h
theorem Laid.below {w w' : World} (h : Laid w) (hb : Below w.heap.size w w') : Laid w' :=
  ⟨var_kept gPow h.tab hb, let ⟨tp, p, hs⟩ := h.syn; ⟨tp, p, var_kept gSyn hs hb⟩, let ⟨tp, p, hs⟩ := h.rng; ⟨tp, p, var_kept gRng hs hb⟩⟩

theorem grow_below (w : World) (k : Nat) (os : Array Obj) : Below w.heap.size w (Sort.grow (w.drewN k) os) := by
  exact ⟨rfl, rfl, rfl, by simp, fun i hi => Sort.heap_grow_old _ _ hi⟩

theorem itoa_any (n : Int) (hn : I64 n) (w : World) (hL : Laid w) :
    Calls Tryd.prog 29 #[.int .i64 n] w fun e w' => e = .returned (.string ⟨(Lib.itoa n).toArray⟩) ∧ Below w.heap.size w w' :=
  (Tryd.strconv_Itoa n hn.1 hn.2 w hL.tab).mono fun e w' ⟨he, k, os, hw⟩ => ⟨he, by rw [hw]; exact grow_below w k os⟩

theorem atoi_ok (s : ByteArray) (hs : s.size ≤ 281474976710656) (v : Int) (h : Lib.atoiAll s.data.toList = .ok v) (w : World) :
    Calls Tryd.prog 28 #[.string s] w fun e w' => e = .returned (.tuple #[.int .i64 v, .nilIface]) ∧ Below w.heap.size w w' :=
  (Tryd.strconv_Atoi_ok s (by omega) v h w).mono fun e w' ⟨he, hw⟩ => ⟨he, by
    rcases hw with rfl | ⟨t, rfl⟩
    · exact Below.refl _ _
    · exact Lib.bytesWorld_below ..⟩
theorem atoi_bad (s : ByteArray) (hs : s.size ≤ 281474976710656) (h : ∀ v, Lib.atoiAll s.data.toList ≠ .ok v) (w : World) (hL : Laid w) :
    Calls Tryd.prog 28 #[.string s] w fun e w' => ∃ x N, e = .returned (.tuple #[.int .i64 x, .iface 54 (.pointer (some ⟨N, 0, none⟩))]) ∧ Below w.heap.size w w' := by
  obtain ⟨ts, ps, hsyn⟩ := hL.syn
  obtain ⟨tr, pr, hrng⟩ := hL.rng
  rcases h' : Lib.atoiAll s.data.toList with v | _ | _
  · exact absurd h' (h v)
  · exact (Any.strconv_Atoi_syntax_var Tryd.laysC172 s hs h' ts ps w hsyn).mono fun e w' ⟨N, he, _, _, hb⟩ => ⟨_, N, he, hb⟩
  · exact (Any.strconv_Atoi_range_var Tryd.laysC172 s hs h' tr pr w hrng).mono fun e w' ⟨N, he, _, _, hb⟩ => ⟨_, N, he, hb⟩

set_option maxHeartbeats 400000 in
theorem dec_any (n : Int) (hn : I64 n) (w : World) (hL : Laid w) :
    Calls Tryd.prog 22 #[.int .i64 n] w fun e w' => e = .returned (.string ⟨(Lib.itoa n).toArray⟩) ∧ Below w.heap.size w w' := by
  go_enter Tryd.func22, Tryd.ntmps22
  go_wp2_with (go_at_call 29; refine (itoa_any n hn _ hL).mono ?_; rintro e w' ⟨rfl, hb⟩)
  go_ret
  exact ⟨rfl, hb⟩

set_option maxHeartbeats 400000 in
theorem parse_any (s : ByteArray) (hs : s.size ≤ 281474976710656) (w : World) (hL : Laid w) :
    Calls Tryd.prog 18 #[.string s] w fun e w' => ∃ x b, e = .returned (.tuple #[.int .i64 x, .bool b]) ∧ PR s.data.toList x b ∧ Below w.heap.size w w' := by
  by_cases hv : ∃ v, Lib.atoiAll s.data.toList = .ok v
  · obtain ⟨v, hv⟩ := hv
    have hi := atoiAll_I64 hv
    have hp := pr_of_atoi hv hi
    by_cases he : Lib.itoa v = s.data.toList
    · have hp1 := Lib.hid (hp.1 he)
      have heq : (Lib.itoa v == s.toList) = true := by rw [ByteArray.toList_eq, beq_iff_eq]; exact he
      clear hp he
      go_enter Tryd.func18, Tryd.ntmps18
      go_wp2_with (first | (go_at_call 28; refine (atoi_ok s hs v hv _).mono ?_; rintro e w1 ⟨rfl, hb⟩) | (go_at_call 22; refine (dec_any v hi _ (hL.below hb)).mono ?_; rintro e w2 ⟨rfl, hb2⟩))
      go_ret2
      exact ⟨_, _, rfl, hp1.out, hb.trans (hb2.mono hb.size)⟩
    · have hp1 := Lib.hid (hp.2 he)
      have heq : (Lib.itoa v == s.toList) = false := by rw [ByteArray.toList_eq, beq_eq_false_iff_ne]; exact he
      clear hp he
      go_enter Tryd.func18, Tryd.ntmps18
      go_wp2_with (first | (go_at_call 28; refine (atoi_ok s hs v hv _).mono ?_; rintro e w1 ⟨rfl, hb⟩) | (go_at_call 22; refine (dec_any v hi _ (hL.below hb)).mono ?_; rintro e w2 ⟨rfl, hb2⟩))
      go_ret2
      exact ⟨_, _, rfl, hp1.out, hb.trans (hb2.mono hb.size)⟩
  · have hbad : ∀ v, Lib.atoiAll s.data.toList ≠ .ok v := fun v e => hv ⟨v, e⟩
    have hp1 := Lib.hid (pr_of_fail hbad)
    have Hbad := Lib.hid hbad
    clear hv hbad
    go_enter Tryd.func18, Tryd.ntmps18
    go_wp2_with (go_at_call 28; refine (atoi_bad s hs Hbad.out _ hL).mono ?_; rintro e w1 ⟨x, N, rfl, hb⟩)
    go_ret2
    exact ⟨_, _, rfl, hp1.out, hb⟩
end Go.Proofs.YtddimcicajlbgaaDoor
