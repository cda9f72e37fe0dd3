/- What the document's own Put answers; what was there stays. -/
import Derived.Test.YtofeiheomnpggaaMemC
import Derived.Laws.OwnMore
namespace Go.Proofs.Ytofeiheomnpggaa
open Go.RowKit Go.Lib

/-- When i bytes were put. -/
def rowAt (l m : List UInt8) (x i : Nat) : List UInt8 := l.take x ++ m.take i ++ l.drop (x + i)
theorem rowAt_zero (l m : List UInt8) (x : Nat) : rowAt l m x 0 = l := by simp [rowAt]
theorem rowAt_length (l m : List UInt8) (x i : Nat) (h : x + m.length ≤ l.length) (hi : i ≤ m.length) : (rowAt l m x i).length = l.length := by simp [rowAt]; omega
theorem rowAt_step (l m : List UInt8) (x i : Nat) (h : x + m.length ≤ l.length) (hi : i < m.length) : (rowAt l m x i).set (x + i) (m.getD i 0) = rowAt l m x (i + 1) := by
  unfold rowAt
  have h1 : l.drop (x + i) = l[x + i]'(by omega) :: l.drop (x + (i + 1)) := by rw [List.drop_eq_getElem_cons (by omega)]; rfl
  have h2 : m.take (i + 1) = m.take i ++ [m.getD i 0] := by rw [List.take_succ_eq_append_getElem hi]; simp [hi]
  rw [h1, h2, List.set_append_right _ _ (by simp; omega)]
  have h3 : x + i - (l.take x ++ m.take i).length = 0 := by simp; omega
  rw [h3, List.set_cons_zero]
  simp
theorem rowAt_end (l m : List UInt8) (x : Nat) : rowAt l m x m.length = l.take x ++ m ++ l.drop (x + m.length) := by simp [rowAt]

theorem ownsRow_at {w : World} {base g n cap : Nat} {t : TypeId} {r : List UInt8} (h : w.ownsRow base t 1 (.slice (some ⟨g, 0, none⟩) n cap) n (byteCells r)) (j : Nat) (hj : j < r.length) :
    w.cell? ⟨g, j, none⟩ = some (.int .u8 (r.getD j 0).toNat) ∧ w.frozen? ⟨g, j, none⟩ = false ∧ base ≤ g := by
  have h1 := World.ownsRow.cells h rfl j (.int .u8 (r.getD j 0).toNat) (by simp [byteCells, hj])
  rw [Addr.add_lit, Nat.zero_add] at h1
  refine ⟨h1, ?_⟩
  rcases h.2 with ⟨hv, _⟩ | ⟨g', cap', cur, hv, hg, hh, _⟩
  · cases hv
  · cases hv
    exact ⟨by simp [World.frozen?, hh], hg⟩
theorem ownsRow_put {w : World} {base g n cap : Nat} {t : TypeId} {r : List UInt8} (h : w.ownsRow base t 1 (.slice (some ⟨g, 0, none⟩) n cap) n (byteCells r)) (j : Nat) (y : UInt8) :
    (w.setCell ⟨g, j, none⟩ (.int .u8 y.toNat)).ownsRow base t 1 (.slice (some ⟨g, 0, none⟩) n cap) n (byteCells (r.set j y)) := by
  have h1 := (World.ownsRow.stored h j (.int .u8 y.toNat)).1
  have h2 : byteCells (r.set j y) = (byteCells r).set j (.int .u8 y.toNat) := by simp [byteCells, List.map_set]
  rw [h2]
  exact h1

/-- Bytes that are answered: those that were handed in, or new ones. -/
def Given (W : World) (base : Nat) (v : Value) (l : List UInt8) (r : Value) (G : List UInt8) : Prop := (r = v ∧ G = l) ∨ W.ownsRow base 5 1 r G.length (byteCells G)
theorem Given.below {W W1 : World} {base : Nat} {v : Value} {l : List UInt8} {r : Value} {G : List UInt8} (h : Given W base v l r G) (hb : Below W.heap.size W W1) : Given W1 base v l r G := by
  rcases h with h | h
  · exact .inl h
  · exact .inr (ownsRow_below h hb)
theorem Given.set {W : World} {base : Nat} {v : Value} {l : List UInt8} {r : Value} {G : List UInt8} (h : Given W base v l r G) (a : Addr) (c : Value) (ha : a.block < base) : Given (W.setCell a c) base v l r G := by
  rcases h with h | h
  · exact .inl h
  · exact .inr (ownsRow_set h a c ha)
theorem Given.base {W : World} {base b2 : Nat} {v : Value} {l : List UInt8} {r : Value} {G : List UInt8} (h : Given W base v l r G) (hb : b2 ≤ base) : Given W b2 v l r G := by
  rcases h with h | h
  · exact .inl h
  · exact .inr (ownsRow_base h hb)
theorem Given.arg {w W : World} {base : Nat} {v : Value} {l : List UInt8} {r : Value} {G : List UInt8} (h : Given W base v l r G) (hv : IsArg w v l) (hb : Below w.heap.size w W) : IsArg W r G := by
  rcases h with ⟨rfl, rfl⟩ | h
  · exact hv.below hb
  · exact isArg_of_owns h
theorem Given.shape {w W : World} {base : Nat} {v : Value} {l : List UInt8} {r : Value} {G : List UInt8} (h : Given W base v l r G) (hv : IsArg w v l) : ∃ a n c, r = .slice a n c := by
  rcases h with ⟨rfl, rfl⟩ | h
  · obtain ⟨a, c, h1, _⟩ := hv.shape
    exact ⟨a, _, c, h1⟩
  · obtain ⟨a, c, h1, _⟩ := (isArg_of_owns h).shape
    exact ⟨a, _, c, h1⟩

set_option maxHeartbeats 4000000 in
theorem refPut_any (v : Value) (l : List UInt8) (u : Value) (m : List UInt8) (w : World) (hv : IsArg w v l) (hu : IsArg w u m) (x : Int) (hl : l.length ≤ 140737488355328) (hm : m.length ≤ 140737488355328) :
    Calls Try.prog 70 #[.agg #[v], .int .i64 x, u] w fun e w' => ∃ r, e = .returned (.tuple #[.agg #[r], .int .i64 (faultOf l.length x m.length)]) ∧ Given w' w.heap.size v l r (putOf l x m) ∧ Below w.heap.size w w' := by
  have HV := Lib.hid hv
  have HU := Lib.hid hu
  have HL := Lib.hid hl
  have HB := Lib.hid (((Below.refl w.heap.size w).alloc (Nat.le_refl _) (.cells #[v] 28)).alloc (by simp) (.cells #[.slice none 0 0] 28))
  obtain ⟨a, c, rfl, hq1⟩ := hv.shape
  obtain ⟨ua, uc, rfl, hq2⟩ := hu.shape
  clear hq1 hq2
  obtain ⟨f, hf⟩ : ∃ f, f = faultOf l.length x m.length := ⟨_, rfl⟩
  obtain ⟨g, hg⟩ : ∃ g, g = putOf l x m := ⟨_, rfl⟩
  rw [← hf, ← hg]
  have HG := Lib.hid hg
  have HMX := Lib.hid (show l.length ≤ maxLen by unfold maxLen; omega)
  have HMI := Lib.hid (show -9223372036854775808 ≤ (m.length : Int) ∧ (m.length : Int) ≤ 9223372036854775807 by omega)
  clear hv hu hm
  rcases fault_cases l.length x m.length with ⟨h0, h1⟩ | ⟨h0, h1, _⟩ | ⟨h0, k0, k1, k2, k3, k4⟩
  · obtain rfl : f = 3 := by rw [hf, h0]
    have hg2 : g = l := by rw [hg]; exact putOf_none (by rw [h0]; decide)
    subst hg2
    have HC := Lib.hid (show false = decide (g.length ≤ 8192) from (decide_eq_false (by omega)).symm)
    clear hf hg h0 h1 hl
    go_enter Try.func70, Try.ntmps70
    go_wp2_with fail
    refine (refCheck_any _ _ _ HMX.out _ HC.out _).mono ?_
    rintro e w1 ⟨rfl, hb⟩
    have HB1w := Lib.hid (HB.out.trans (hb.mono (by simp; omega)))
    obtain ⟨hcl, hold, hfz, hlt⟩ := second_box hb
    clear hb
    go_wp2
    refine bodyPost_ret (v := .tuple #[.agg #[.slice a g.length c], .int .i64 3]) (by simp [results, Try.results70, go_sem, hold]) rfl ⟨_, rfl, ?_, ?_⟩
    · exact .inl ⟨rfl, rfl⟩
    · exact HB1w.out.setCell (by simp) _
  · obtain rfl : f = 40 := by rw [hf, h0]
    have hg2 : g = l := by rw [hg]; exact putOf_none (by rw [h0]; decide)
    subst hg2
    have HC := Lib.hid (show true = decide (g.length ≤ 8192) from (decide_eq_true h1).symm)
    have HI := Lib.hid (show false = decide (faultOf g.length x m.length = 0) from (decide_eq_false (by rw [h0]; decide)).symm)
    have H1 := Lib.hid h1
    clear hf hg h0 h1 hl
    go_enter Try.func70, Try.ntmps70
    go_wp2_with fail
    refine (refCheck_any _ _ _ HMX.out _ HC.out _).mono ?_
    rintro e w1 ⟨rfl, hb⟩
    have HB1 := Lib.hid hb
    have hcl := (second_box hb).1
    clear hb
    go_wp2_with fail
    refine (inside_any _ _ _ H1.out _ _ HMI.out _ HI.out _).mono ?_
    rintro e w2 ⟨rfl, hb⟩
    have HB2 := Lib.hid (HB1.out.trans (hb.mono HB1.out.size))
    have HB2w := Lib.hid (HB.out.trans (HB2.out.mono (by simp; omega)))
    clear hb hcl
    obtain ⟨hcl, hold, hfz, hlt⟩ := second_box HB2.out
    go_wp2
    refine bodyPost_ret (v := .tuple #[.agg #[.slice a g.length c], .int .i64 40]) (by simp [results, Try.results70, go_sem, hold]) rfl ⟨_, rfl, ?_, ?_⟩
    · exact .inl ⟨rfl, rfl⟩
    · exact HB2w.out.setCell (by simp) _
  · obtain rfl : f = 0 := by rw [hf, h0]
    have hg2 : g = l.take x.toNat ++ m ++ l.drop (x.toNat + m.length) := by rw [hg]; exact putOf_some h0
    have HC := Lib.hid (show true = decide (l.length ≤ 8192) from (decide_eq_true k0).symm)
    have HI := Lib.hid (show true = decide (faultOf l.length x m.length = 0) from (decide_eq_true h0).symm)
    have H1 := Lib.hid k0
    obtain ⟨x, rfl⟩ := Int.eq_ofNat_of_zero_le k1
    have hxy : x + m.length ≤ l.length := by omega
    rw [Int.toNat_natCast, ← rowAt_end] at hg2
    have HG2 := Lib.hid hg2
    have HXY := Lib.hid hxy
    obtain ⟨i0, hi, hz0, hz1, hz2⟩ := info_parts info8
    clear hf hg h0 k0 k1 k2 k3 k4 hg2 hxy hl
    go_enter Try.func70, Try.ntmps70
    go_wp2_with fail
    refine (refCheck_any _ _ _ HMX.out _ HC.out _).mono ?_
    rintro e w1 ⟨rfl, hb⟩
    have HB1 := Lib.hid hb
    have hcl := (second_box hb).1
    clear hb
    go_wp2_with fail
    refine (inside_any _ _ _ H1.out _ _ HMI.out _ HI.out _).mono ?_
    rintro e w2 ⟨rfl, hb⟩
    have HB2 := Lib.hid (HB1.out.trans (hb.mono HB1.out.size))
    have HB2w := Lib.hid (HB.out.trans (HB2.out.mono (by simp; omega)))
    clear hb hcl
    have HB3 := Lib.hid (HB2.out.alloc HB2.out.size (.cells #[] 5))
    have HB3w := Lib.hid (HB2w.out.alloc HB2w.out.size (.cells #[] 5))
    have hcl := (second_box HB3.out).1
    have HO := Lib.hid (ownsRow_empty (heap_alloc_new w2 (.cells #[] 5)) (cap := 0) (by decide) rfl _ (Nat.le_refl _))
    have HA := Lib.hid (HV.out.below HB3w.out).2
    go_wp2_with (at_builtin; refine wpList_append_isArg _ rfl _ _ 26 rfl w2.heap.size 5 i0 (.int .u8 0) Try.underlying26 hi hz0 hz1 hz2 rfl _ _ _ rfl HO.out _ l rfl HA.out ?c2 ?c3 ?_)
    case c2 => rw [Nat.zero_add]; exact HL.out
    case c3 => simp
    intro v' w3 hown hgrow
    have HB4 := Lib.hid (HB3.out.grown hgrow (by have := HB2.out.size; simp at this ⊢; omega) (fun k hk => Nat.le_trans HB2.out.size (HO.out.lt k hk).1))
    have hown2 : w3.ownsRow w2.heap.size 5 1 v' l.length (byteCells (rowAt l m x 0)) := by rw [rowAt_zero]; simpa using hown
    obtain ⟨va, vc, rfl, hvc⟩ := (isArg_of_owns (l := l) (by simpa using hown)).shape
    have HO2 := Lib.hid hown2
    clear hown hown2 hgrow hcl hvc
    go_wp2
    go_loopw [9] (fun cn wr => ∃ i : Nat, i ≤ m.length ∧ cn = .int .i64 i ∧ wr.ownsRow w2.heap.size 5 1 (.slice va l.length vc) l.length (byteCells (rowAt l m x i)) ∧ Below ((w.alloc (.cells #[.slice a l.length c] 28)).alloc (.cells #[.slice none 0 0] 28)).heap.size ((w.alloc (.cells #[.slice a l.length c] 28)).alloc (.cells #[.slice none 0 0] 28)) wr) (fun cn _ => m.length - (intOf cn).toNat)
    case atStart => exact ⟨0, Nat.zero_le _, rfl, HO2.out, HB4.out⟩
    case round =>
      obtain ⟨i, hi', rfl, hown, hb⟩ := hrel
      have HBr := Lib.hid hb
      have HOr := Lib.hid hown
      have HBrw := Lib.hid (HB.out.trans (hb.mono (by simp; omega)))
      clear hb
      by_cases hlt : i < m.length
      · obtain ⟨j, hj⟩ : ∃ j, j = x + i := ⟨_, rfl⟩
        have hji : (x : Int) + (i : Int) = (j : Int) := by omega
        have hjl : j < l.length := by have := HXY.out; omega
        have hj8 : j ≤ 8192 := by have := H1.out; omega
        have hm8 : m.length ≤ 8192 := by have := H1.out; have := HXY.out; omega
        have HJ := Lib.hid hj
        obtain ⟨gb, hva, hgb⟩ : ∃ gb, va = some ⟨gb, 0, none⟩ ∧ w2.heap.size ≤ gb := by
          rcases hown.2 with ⟨hv, _⟩ | ⟨g', cap', cur, hv, hg, _⟩
          · simp at hv; omega
          · cases hv; exact ⟨_, rfl, hg⟩
        subst hva
        have hra := ownsRow_at hown j (by rw [rowAt_length l m x i HXY.out hi']; exact hjl)
        have hcl := hra.1
        have hfz := hra.2.1
        obtain ⟨y, hy⟩ : ∃ y, y = m.getD i 0 := ⟨_, rfl⟩
        have HY := Lib.hid hy
        obtain ⟨b, off, ucell, hbu⟩ : ∃ b off, ua = some ⟨b, off, none⟩ ∧ (b < w.heap.size ∧ ∀ k, k < m.length → w.cell? ⟨b, off + k, none⟩ = some (.int .u8 (m.getD k 0).toNat)) := by
          rcases HU.out.1 with ⟨_, _, _, h0⟩ | ⟨b, off, cap, h1, _, _, h4, h5⟩
          · subst h0; simp at hlt
          · cases h1; exact ⟨b, off, rfl, h4, h5⟩
        subst ucell
        have hcu : wr.cell? ⟨b, off + i, none⟩ = some (.int .u8 y.toNat) := by rw [hy, HBrw.out.cell hbu.1]; exact hbu.2 i hlt
        clear hra hown hj hbu hy
        go_wp2
        go_roundw
        case rel =>
          refine ⟨i + 1, by omega, by go_num, ?_, HBr.out.setCell (show _ ≤ gb by have := HB2.out.size; omega) _⟩
          have hs := ownsRow_put HOr.out j y
          rw [HY.out, HJ.out, rowAt_step l m x i HXY.out hlt, ← HJ.out, ← HY.out] at hs
          exact hs
        case measure => simp [intOf]; omega
      · obtain rfl : i = m.length := by omega
        obtain ⟨_, hold, hfz, hlt2⟩ := second_box HBr.out
        clear hown hi' hlt
        go_wp2
        refine bodyPost_ret (v := .tuple #[.agg #[.slice va l.length vc], .int .i64 0]) (by simp [results, Try.results70, go_sem, hold]) rfl ⟨_, rfl, ?_, ?_⟩
        · rw [HG2.out]
          refine .inr ?_
          rw [rowAt_length l m x _ HXY.out (Nat.le_refl _)]
          exact ownsRow_base (ownsRow_set HOr.out _ _ (by have := HB2.out.size; simp at this ⊢; omega)) HB2w.out.size
        · exact HBrw.out.setCell (by simp) _
end Go.Proofs.Ytofeiheomnpggaa
