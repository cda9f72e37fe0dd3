/- What a sector full of a byte is. -/
import Derived.Test.YtaamjpcpdlanhaaDskN
namespace Go.Proofs.Ytaamjpcpdlanhaa
open Go.RowKit Go.Lib

def fullTo (c : UInt8) (k : Nat) : List UInt8 := List.replicate k c ++ List.replicate (256 - k) 0
theorem fullTo_length (c : UInt8) (k : Nat) (h : k ≤ 256) : (fullTo c k).length = 256 := by simp [fullTo]; omega
theorem fullTo_step (c : UInt8) (k : Nat) (h : k < 256) : (fullTo c k).set k c = fullTo c (k + 1) := by
  unfold fullTo
  rw [List.set_append_right _ _ (by simp), List.length_replicate, Nat.sub_self, show 256 - k = (256 - (k + 1)) + 1 by omega, List.replicate_succ, List.set_cons_zero, List.replicate_succ']
  simp
theorem fullTo_end (c : UInt8) : fullTo c 256 = List.replicate 256 c := by rw [fullTo, Nat.sub_self, List.replicate_zero, List.append_nil]
theorem fullTo_zero (c : UInt8) : fullTo c 0 = List.replicate 256 0 := by rw [fullTo, List.replicate_zero, List.nil_append, Nat.sub_zero]

set_option maxHeartbeats 4000000 in
set_option maxRecDepth 100000 in
theorem sector_any (c : UInt8) (w : World) :
    Calls Try.prog 25 #[.int .u8 (c.toNat : Nat)] w fun e w' => ∃ g, e = .returned (.slice (some ⟨g, 0, none⟩) 256 256) ∧ IsArg w' (.slice (some ⟨g, 0, none⟩) 256 256) (List.replicate 256 c) ∧ Below w.heap.size w w' := by
  obtain ⟨j0, ji, jz0, jz1, jz2⟩ := info_parts info8
  go_enter Try.func25, Try.ntmps25
  go_wp2_with (refine wpList_make_full _ rfl _ _ 35 rfl w.heap.size 5 j0 (.int .u8 0) 1 Try.underlying35 ji jz0 jz1 .i64 .i64 _ _ 256 rfl rfl rfl rfl ?d2 ?d3 ?d4 ?_)
  case d2 => rw [jz2]; decide
  case d3 => decide
  case d4 => exact Nat.le_refl _
  intro w1 hown hgrow
  have HB1 := Lib.hid (show Below w.heap.size w w1 from (Below.refl _ _).grown hgrow (Nat.le_refl _) (fun k hk => by cases hk))
  have hown2 : w1.ownsRow w.heap.size 5 1 (.slice (some ⟨w.heap.size, 0, none⟩) 256 256) 256 (byteCells (fullTo c 0)) := by
    rw [fullTo_zero, ← zeros_row]
    exact hown
  obtain ⟨g, hg⟩ : ∃ g, g = w.heap.size := ⟨_, rfl⟩
  rw [← hg] at hown2 ⊢
  have HG := Lib.hid (Nat.le_of_eq hg.symm)
  have HO := Lib.hid hown2
  clear hown hown2 hgrow hg
  go_wp2
  go_loopw [4] (fun x wr => ∃ k : Nat, k ≤ 256 ∧ x = .int .i64 k ∧ wr.ownsRow g 5 1 (.slice (some ⟨g, 0, none⟩) 256 256) 256 (byteCells (fullTo c k)) ∧ Below w.heap.size w wr) (fun x _ => 256 - (intOf x).toNat)
  case atStart => exact ⟨0, Nat.zero_le _, rfl, HO.out, HB1.out⟩
  case round =>
    obtain ⟨k, hk, rfl, hown, hbw⟩ := hrel
    have HOk := Lib.hid hown
    have HBk := Lib.hid hbw
    clear hbw
    by_cases hlt : k < 256
    · have hcg := hown.cellAt k (by omega)
      obtain ⟨u, hu⟩ : ∃ u, (byteCells (fullTo c k))[k]? = some u := ⟨(byteCells (fullTo c k))[k]'(by rw [byteCells_length, fullTo_length c k hk]; exact hlt), List.getElem?_eq_getElem _⟩
      rw [hu] at hcg
      have hfg := hown.frozenAt k
      clear hown hu
      go_wp2
      go_roundw
      case rel =>
        refine ⟨k + 1, by omega, by go_num, ?_, HBk.out.setCell (by show w.heap.size ≤ g; exact HG.out) _⟩
        have h := (HOk.out.stored k (.int .u8 (c.toNat : Nat))).1
        have h2 : (byteCells (fullTo c k)).set k (.int .u8 (c.toNat : Nat)) = byteCells ((fullTo c k).set k c) := by simp [byteCells, List.map_set]
        rw [h2, fullTo_step c k hlt] at h
        exact h
      case measure => simp [intOf]; omega
    · obtain rfl : k = 256 := by omega
      clear hown
      go_wp2
      go_ret
      have h := HOk.out
      rw [fullTo_end] at h
      exact ⟨g, rfl, isArg_of_owns (l := List.replicate 256 c) (by rw [List.length_replicate]; exact h), HBk.out⟩
end Go.Proofs.Ytaamjpcpdlanhaa
