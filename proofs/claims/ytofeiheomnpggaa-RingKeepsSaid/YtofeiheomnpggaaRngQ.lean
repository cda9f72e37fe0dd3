/- All the document's answers; what is answered by name; what the examples of the law's package come to: true. -/
import Derived.Test.YtofeiheomnpggaaRngO
import Derived.Test.YtofeiheomnpggaaRngR
namespace Go.Proofs.Ytofeiheomnpggaa
open Go.RowKit Go.Lib

theorem okR_ring {L : Nat} {b z : Int} (h : ringF L b z = 70) : okR L b z = false := by
  rcases ring_cases L b z with ⟨h1, _⟩ | ⟨_, _, _, _, _, h1⟩
  · exact h1
  · omega
theorem refDesc_any (v : Value) (l : List UInt8) (b z i : Int) (F : Int) (x0 x1 x2 x3 : Nat) (hF : descF l.length b z i = F) (h0 : descX l b z i 0 8 = x0) (h1 : descX l b z i 8 4 = x1) (h2 : descX l b z i 12 2 = x2) (h3 : descX l b z i 14 2 = x3) (hl : l.length ≤ 140737488355328) (w : World) (hv : IsArg w v l) :
    Calls Try.prog 15 #[.agg #[v], .int .i64 b, .int .i64 z, .int .i64 i] w fun e w' => e = .returned (.tuple #[.agg #[.int .u64 (x0 : Nat), .int .u32 (x1 : Nat), .int .u16 (x2 : Nat), .int .u16 (x3 : Nat)], .int .i64 F]) ∧ Below w.heap.size w w' := by
  by_cases hz : F = 0
  · subst hz
    rcases desc_cases l.length b z i with ⟨_, h⟩ | ⟨_, _, h⟩ | ⟨B, N, I, rfl, rfl, rfl, hI, hok, h⟩
    · omega
    · omega
    · rw [descX_ok hok hI] at h0 h1 h2 h3
      exact refDesc_in v l w hv B N hok I hI (B + 16 * I) rfl x0 x1 x2 x3 h0 h1 h2 h3
  · have hx : ∀ o k, descX l b z i o k = 0 := fun o k => by rw [descX, if_neg (by rw [hF]; exact hz)]
    rw [hx] at h0 h1 h2 h3
    subst h0
    subst h1
    subst h2
    subst h3
    rcases desc_cases l.length b z i with ⟨h, h1⟩ | ⟨h, hi, h1⟩ | ⟨_, _, _, _, _, _, _, _, h1⟩
    · obtain rfl : F = 70 := by omega
      exact refDesc_out v l b z i h hl w hv
    · obtain rfl : F = 2 := by omega
      exact refDesc_arg v l b z i h hi hl w hv
    · omega
theorem refSetDesc_any (v : Value) (l : List UInt8) (b z i : Int) (a n f x : Nat) (ha : a < 18446744073709551616) (hn : n < 4294967296) (hf : f < 65536) (hx : x < 65536) (F : Int) (G : List UInt8) (hF : descF l.length b z i = F) (hG : setX l b z i a n f x = G) (hl : l.length ≤ 140737488355328) (w : World) (hv : IsArg w v l) :
    Calls Try.prog 17 #[.agg #[v], .int .i64 b, .int .i64 z, .int .i64 i, .agg #[.int .u64 (a : Nat), .int .u32 (n : Nat), .int .u16 (f : Nat), .int .u16 (x : Nat)]] w (Wrote w v l G F) := by
  by_cases hz : F = 0
  · subst hz
    rcases desc_cases l.length b z i with ⟨_, h⟩ | ⟨_, _, h⟩ | ⟨B, N, I, rfl, rfl, rfl, hI, hok, h⟩
    · omega
    · omega
    · rw [setX_ok hok hI] at hG
      subst hG
      exact refSetDesc_in v l w hv B N hok I hI a n f x ha hn hf hx (B + 16 * I) rfl
  · rw [setX, if_neg (by rw [hF]; exact hz)] at hG
    subst hG
    rcases desc_cases l.length b z i with ⟨h, h1⟩ | ⟨h, hi, h1⟩ | ⟨_, _, _, _, _, _, _, _, h1⟩
    · obtain rfl : F = 70 := by omega
      exact refSetDesc_out v l b z i a n f x h hl w hv
    · obtain rfl : F = 2 := by omega
      exact refSetDesc_arg v l b z i a n f x h hi hl w hv
    · omega
theorem refAvail_any (v : Value) (l : List UInt8) (b z : Int) (F : Int) (y : Nat) (hF : ringF l.length b z = F) (hy : availX l b z = y) (hl : l.length ≤ 140737488355328) (w : World) (hv : IsArg w v l) :
    Calls Try.prog 21 #[.agg #[v], .int .i64 b, .int .i64 z] w fun e w' => e = .returned (.tuple #[.int .u16 (y : Nat), .int .i64 F]) ∧ Below w.heap.size w w' := by
  by_cases h0 : F = 0
  · subst h0
    obtain ⟨B, N, rfl, rfl, hok⟩ := ring_in hF
    rw [availX_ok hok] at hy
    exact refAvail_in v l w hv B N hok _ y rfl hy
  · have h7 := ringF_two (by rw [hF]; exact h0)
    obtain rfl : F = 70 := by omega
    rw [availX, if_neg (by rw [h7]; decide)] at hy
    subst hy
    exact refAvail_out v l b z (okR_ring h7) hl w hv
theorem refUsed_any (v : Value) (l : List UInt8) (b z : Int) (F : Int) (y : Nat) (hF : ringF l.length b z = F) (hy : usedX l b z = y) (hl : l.length ≤ 140737488355328) (w : World) (hv : IsArg w v l) :
    Calls Try.prog 23 #[.agg #[v], .int .i64 b, .int .i64 z] w fun e w' => e = .returned (.tuple #[.int .u16 (y : Nat), .int .i64 F]) ∧ Below w.heap.size w w' := by
  by_cases h0 : F = 0
  · subst h0
    obtain ⟨B, N, rfl, rfl, hok⟩ := ring_in hF
    rw [usedX_ok hok] at hy
    exact refUsed_in v l w hv B N hok _ y rfl hy
  · have h7 := ringF_two (by rw [hF]; exact h0)
    obtain rfl : F = 70 := by omega
    rw [usedX, if_neg (by rw [h7]; decide)] at hy
    subst hy
    exact refUsed_out v l b z (okR_ring h7) hl w hv
theorem refAvailAt_any (v : Value) (l : List UInt8) (b z : Int) (k : Nat) (hk : k < 65536) (F : Int) (y : Nat) (hF : ringF l.length b z = F) (hy : availAtX l b z k = y) (hl : l.length ≤ 140737488355328) (w : World) (hv : IsArg w v l) :
    Calls Try.prog 24 #[.agg #[v], .int .i64 b, .int .i64 z, .int .u16 (k : Nat)] w fun e w' => e = .returned (.tuple #[.int .i64 (y : Nat), .int .i64 F]) ∧ Below w.heap.size w w' := by
  by_cases h0 : F = 0
  · subst h0
    obtain ⟨B, N, rfl, rfl, hok⟩ := ring_in hF
    rw [availAtX_ok hok] at hy
    exact refAvailAt_in v l w hv B N hok k hk _ y rfl hy
  · have h7 := ringF_two (by rw [hF]; exact h0)
    obtain rfl : F = 70 := by omega
    rw [availAtX, if_neg (by rw [h7]; decide)] at hy
    subst hy
    exact refAvailAt_out v l b z k (okR_ring h7) hl w hv
theorem refUsedAt_any (v : Value) (l : List UInt8) (b z : Int) (k : Nat) (hk : k < 65536) (F : Int) (x0 x1 : Nat) (hF : ringF l.length b z = F) (h0 : usedAtX l b z k 0 = x0) (h1 : usedAtX l b z k 4 = x1) (hl : l.length ≤ 140737488355328) (w : World) (hv : IsArg w v l) :
    Calls Try.prog 25 #[.agg #[v], .int .i64 b, .int .i64 z, .int .u16 (k : Nat)] w fun e w' => e = .returned (.tuple #[.agg #[.int .u32 (x0 : Nat), .int .u32 (x1 : Nat)], .int .i64 F]) ∧ Below w.heap.size w w' := by
  by_cases hz : F = 0
  · subst hz
    obtain ⟨B, N, rfl, rfl, hok⟩ := ring_in hF
    rw [usedAtX_ok hok] at h0 h1
    exact refUsedAt_in v l w hv B N hok k hk _ x0 x1 rfl h0 h1
  · have h7 := ringF_two (by rw [hF]; exact hz)
    obtain rfl : F = 70 := by omega
    rw [usedAtX, if_neg (by rw [h7]; decide)] at h0 h1
    subst h0
    subst h1
    exact refUsedAt_out v l b z k (okR_ring h7) hl w hv
theorem refOffer_any (v : Value) (l : List UInt8) (b z : Int) (k : Nat) (hk : k < 65536) (h : Int) (F : Int) (G : List UInt8) (hF : ringF l.length b z = F) (hG : offerX l b z k h = G) (hl : l.length ≤ 140737488355328) (w : World) (hv : IsArg w v l) :
    Calls Try.prog 19 #[.agg #[v], .int .i64 b, .int .i64 z, .int .u16 (k : Nat), .int .i64 h] w (Wrote w v l G F) := by
  by_cases h0 : F = 0
  · subst h0
    obtain ⟨B, N, rfl, rfl, hok⟩ := ring_in hF
    rw [offerX_ok hok] at hG
    subst hG
    exact refOffer_in v l w hv B N hok k hk h _ rfl
  · have h7 := ringF_two (by rw [hF]; exact h0)
    obtain rfl : F = 70 := by omega
    rw [offerX, if_neg (by rw [h7]; decide)] at hG
    subst hG
    exact refOffer_out v l b z k h (okR_ring h7) hl w hv
theorem refReturn_any (v : Value) (l : List UInt8) (b z : Int) (k : Nat) (hk : k < 65536) (y0 y1 : Nat) (hy0 : y0 < 4294967296) (hy1 : y1 < 4294967296) (F : Int) (G : List UInt8) (hF : ringF l.length b z = F) (hG : returnX l b z k y0 y1 = G) (hl : l.length ≤ 140737488355328) (w : World) (hv : IsArg w v l) :
    Calls Try.prog 20 #[.agg #[v], .int .i64 b, .int .i64 z, .int .u16 (k : Nat), .agg #[.int .u32 (y0 : Nat), .int .u32 (y1 : Nat)]] w (Wrote w v l G F) := by
  by_cases h0 : F = 0
  · subst h0
    obtain ⟨B, N, rfl, rfl, hok⟩ := ring_in hF
    rw [returnX_ok hok] at hG
    subst hG
    exact refReturn_in v l w hv B N hok k hk y0 y1 hy0 hy1 _ rfl
  · have h7 := ringF_two (by rw [hF]; exact h0)
    obtain rfl : F = 70 := by omega
    rw [returnX, if_neg (by rw [h7]; decide)] at hG
    subst hG
    exact refReturn_out v l b z k y0 y1 (okR_ring h7) hl w hv
theorem Wrote.arg {w : World} {v : Value} {l G : List UInt8} {F : Int} {e : Ending} {w' : World} (h : Wrote w v l G F e w') (hv : IsArg w v l) : ∃ ra rc, e = .returned (.tuple #[.agg #[.slice ra l.length rc], .int .i64 F]) ∧ IsArg w' (.slice ra l.length rc) G ∧ Below w.heap.size w w' := by
  obtain ⟨ra, rc, h1, h2, h3⟩ := h
  exact ⟨ra, rc, h1, h2.arg hv h3, h3⟩
end Go.Proofs.Ytofeiheomnpggaa
