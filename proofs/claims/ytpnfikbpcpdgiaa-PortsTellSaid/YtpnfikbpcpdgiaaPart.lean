/- Parts of bytes that came in: s[:h], s[l:], s[l:h]. -/
import Derived.Test.YtpnfikbpcpdgiaaArg
import Derived.Lib.SliceRun
namespace Go.Proofs.Ytpnfikbpcpdgiaa
open Go.RowKit Go.Lib

theorem IsArg.shapeC {w : World} {v : Value} {l : List UInt8} (h : IsArg w v l) : ∃ a c, v = .slice a l.length c ∧ l.length ≤ c := by
  rcases h.2 with ⟨rfl, rfl⟩ | ⟨ad, c, rfl, _⟩
  · exact ⟨none, 0, rfl, Nat.le_refl _⟩
  · refine ⟨some ad, c, rfl, ?_⟩
    by_cases h0 : l = []
    · subst h0; exact Nat.zero_le _
    · exact (h.1.cap h0).1

/-- A part of bytes that came in, with or without room behind it. -/
theorem IsArg.part {w : World} {a : Option Addr} {l : List UInt8} {N c : Nat} (h : IsArg w (.slice a N c) l) (lo hi m : Nat) (h1 : lo ≤ hi) (h2 : hi ≤ l.length) (h3 : hi ≤ m) (h4 : m ≤ c) :
    IsArg w (sliced a lo hi m 1) ((l.drop lo).take (hi - lo)) := by
  have hlen : ((l.drop lo).take (hi - lo)).length = hi - lo := by simp; omega
  rcases h.2 with ⟨hv, rfl⟩ | ⟨ad, c0, hv, hcell⟩
  · cases hv
    obtain rfl : m = 0 := by omega
    obtain rfl : hi = 0 := by omega
    obtain rfl : lo = 0 := by omega
    exact isArg_nil w
  · cases hv
    have hd : ∀ j, j < hi - lo → ((l.drop lo).take (hi - lo)).getD j 0 = l.getD (lo + j) 0 := fun j hj => by
      simp [List.getD_eq_getElem?_getD, hj]
    unfold sliced
    rw [Nat.mul_one]
    have hadr : (if m = lo then some ad else (some ad : Option Addr).map (·.add lo)) = some (if m = lo then ad else ad.add lo) := by split <;> rfl
    rw [hadr]
    have hat : ∀ j, j < hi - lo → w.cell? ((if m = lo then ad else ad.add lo).add j) = some (.int .u8 (((l.drop lo).take (hi - lo)).getD j 0).toNat) := fun j hj => by
      have hm : ¬ m = lo := by omega
      rw [if_neg hm, Addr.add_add, hd j hj]
      refine hcell (lo + j) _ ?_
      simp [byteCells, List.getD_eq_getElem?_getD, List.getElem?_eq_getElem (show lo + j < l.length by omega)]
    refine ⟨?_, .inr ⟨_, m - lo, by rw [hlen], fun j u hu => ?_⟩⟩
    · by_cases h0 : hi - lo = 0
      · refine .inl ⟨_, _, by rw [h0], ?_⟩
        rw [h0]; simp
      · have hne : l ≠ [] := by intro h; subst h; simp at h2; omega
        rcases h.1 with ⟨_, _, _, h5⟩ | ⟨b, off, cap, h5, h6, h7, h8, h9⟩
        · exact absurd h5 hne
        · injection h5 with h5 _ h10
          injection h5 with h5
          subst h5
          have hm : ¬ m = lo := by omega
          have hadd : (Addr.add ⟨b, off, none⟩ lo) = ⟨b, off + lo, none⟩ := by rw [Addr.add_lit]
          refine .inr ⟨b, off + lo, m - lo, by rw [if_neg hm, hadd, hlen], by rw [hlen]; omega, by omega, h8, fun i hi' => ?_⟩
          rw [hlen] at hi'
          have := hat i hi'
          rw [if_neg hm, hadd, Addr.add_lit] at this
          exact this
    · have hj : j < hi - lo := by have := (List.getElem?_eq_some_iff.1 hu).1; rwa [byteCells_length, hlen] at this
      rw [hat j hj, ← hu]
      simp [byteCells, List.getD_eq_getElem?_getD, hj, List.getElem?_eq_getElem (show lo + j < l.length by omega)]

theorem cut_to (a : Option Addr) (n c h : Nat) (hh : h ≤ c) (W : World) :
    (Instr.slice 24 (.slice a n c) none (some (.int .i64 h)) none).run Try.prog W = .ok (sliced a 0 h c 1) W := by
  rw [run_slice_h (P := Try.prog) W 24 a n c elemBytes .i64 h (by omega) (by omega), sizeByte]
  rfl
theorem cut_from (a : Option Addr) (n c l : Nat) (hl : l ≤ n) (W : World) :
    (Instr.slice 24 (.slice a n c) (some (.int .i64 l)) none none).run Try.prog W = .ok (sliced a l n c 1) W := by
  rw [run_slice_l (P := Try.prog) W 24 a n c elemBytes .i64 l (by omega) (by omega), sizeByte]
  rfl
theorem cut_lh (a : Option Addr) (n c lo hi : Nat) (h1 : lo ≤ hi) (h2 : hi ≤ c) (W : World) :
    (Instr.slice 24 (.slice a n c) (some (.int .i64 lo)) (some (.int .i64 hi)) none).run Try.prog W = .ok (sliced a lo hi c 1) W := by
  rw [run_slice_lh (P := Try.prog) W 24 a n c elemBytes .i64 .i64 lo hi (by omega) (by omega) (by omega), sizeByte]
  rfl
theorem sliced_shape (a : Option Addr) (lo hi m s : Nat) : ∃ b, sliced a lo hi m s = .slice b (hi - lo) (m - lo) := ⟨_, rfl⟩
end Go.Proofs.Ytpnfikbpcpdgiaa
