/- What slices.Grow makes of nil, and slices.Concat of slices of bytes: a row of the call's own; what was there stays. -/
import Derived.Test.YtofeiheomnpggaaBase
import Derived.Lib.AppendZeros
namespace Go.Proofs.Ytofeiheomnpggaa
open Go.RowKit Go.Lib

theorem ownsRow_empty {w : World} {g cap : Nat} {cur : Array Value} {t : TypeId} (hg : w.heap[g]? = some (.cells cur t (0, 0))) (hc : cap ≤ maxLen) (hs : cur.size = cap * 1) (base : Nat) (hb : base ≤ g) :
    w.ownsRow base t 1 (.slice (some ⟨g, 0, none⟩) 0 cap) 0 [] :=
  ⟨rfl, .inr ⟨g, cap, cur, rfl, hb, hg, Nat.zero_le _, hc, hs, rfl⟩⟩

set_option maxHeartbeats 1000000 in
set_option maxRecDepth 100000 in
theorem grow_nil (n : Nat) (hn : n ≤ 140737488355328) (w : World) :
    Calls Try.prog 77 #[.slice none 0 0, .int .i64 n] w fun e w' => ∃ v, e = .returned v ∧ w'.ownsRow w.heap.size 5 1 v 0 [] ∧ Below w.heap.size w w' := by
  by_cases h0 : n = 0
  · subst h0
    go_enter Try.func77, Try.ntmps77
    go_wp2
    go_ret
    exact ⟨_, rfl, World.ownsRow_nil w w.heap.size 5 1, Below.refl _ _⟩
  · have hpos : 0 < n := by omega
    obtain ⟨i0, hi, hz0, hz1, hz2⟩ := info_parts info8
    have hr := fun (W : World) => run_append_nil_zeros (P := Try.prog) W 26 3 26 5 i0 (.int .u8 0) .i64 .i64 Try.underlying26 Try.underlying3 hi hz0 n hpos (by omega) (by omega) (by rw [hz2]; omega)
    have HR := Lib.hid hr
    have hn2 : ((n : Int) - 0 > 0) := by omega
    clear h0 hr
    have hs1 := slice_to none 0 0 0 (Nat.le_refl _)
    go_enter Try.func77, Try.ntmps77
    go_wp2_with (at_builtin; refine Lib.wpList_append_run _ rfl _ _ _ _ rfl _ _ rfl rfl _ _ (HR.out _) ?_)
    have hs2 := slice_to (some ⟨w.heap.size, 0, none⟩) n (grownCap w n 0 5) 0 (Nat.zero_le _)
    go_wp2
    go_ret
    refine ⟨_, rfl, ownsRow_empty (heap_alloc_new w.drew _) (grownCap_le_maxLen _ _ _ _ (by unfold maxLen; omega)) ?_ _ (Nat.le_refl _), ((Below.refl _ _).drew).alloc (Nat.le_refl _) _⟩
    have hg := grownCap_ge w n 0 5
    simp [size_zeroCells]
    omega

/-- What the first k of some texts come to. -/
def joined (ps : List (Value × List UInt8)) (k : Nat) : List UInt8 := ((ps.take k).map Prod.snd).flatten
theorem joined_succ (ps : List (Value × List UInt8)) (k : Nat) (h : k < ps.length) : joined ps (k + 1) = joined ps k ++ ps[k].2 := by
  unfold joined
  rw [List.take_succ_eq_append_getElem h, List.map_append, List.flatten_append]
  simp only [List.map_cons, List.map_nil, List.flatten_cons, List.flatten_nil, List.append_nil]
theorem joined_le (ps : List (Value × List UInt8)) (k : Nat) : (joined ps k).length ≤ (joined ps ps.length).length := by
  unfold joined
  rw [List.take_length]
  have h : ((ps.take k ++ ps.drop k).map Prod.snd).flatten = ((ps.take k).map Prod.snd).flatten ++ ((ps.drop k).map Prod.snd).flatten := by rw [List.map_append, List.flatten_append]
  rw [List.take_append_drop] at h
  rw [h, List.length_append]
  omega
theorem joined_zero (ps : List (Value × List UInt8)) : joined ps 0 = [] := by simp [joined]

set_option maxHeartbeats 2000000 in
set_option maxRecDepth 100000 in
theorem concat_any (g n : Nat) (ps : List (Value × List UInt8)) (hn : ps.length = n) (hnm : n ≤ 1000000) (w : World)
    (hcells : ∀ j, (h : j < ps.length) → w.cell? ⟨g, j, none⟩ = some ps[j].1 ∧ IsArg w ps[j].1 ps[j].2) (hlen : (joined ps ps.length).length ≤ 140737488355328) :
    Calls Try.prog 75 #[.slice (some ⟨g, 0, none⟩) n n] w fun e w' => ∃ v, e = .returned v ∧ w'.ownsRow w.heap.size 5 1 v (joined ps ps.length).length (byteCells (joined ps ps.length)) ∧ Below w.heap.size w w' := by
  obtain ⟨i0, hi, hz0, hz1, hz2⟩ := info_parts info8
  obtain ⟨S, hS⟩ : ∃ S, S = joined ps ps.length := ⟨_, rfl⟩
  rw [← hS] at hlen
  rw [← hS]
  have hle : ∀ k, (joined ps k).length ≤ S.length := fun k => by rw [hS]; exact joined_le ps k
  have HLE := Lib.hid hle
  have HC := Lib.hid hcells
  have HN := Lib.hid hn
  have HS := Lib.hid hS
  clear hcells hle hn hS
  go_enter Try.func75, Try.ntmps75
  go_wp2
  go_loop [3, 11] (fun x c => ∃ k : Nat, k ≤ n ∧ c = .int .i64 k ∧ x = .int .i64 ((joined ps k).length : Nat)) (fun _ c => n - (intOf c).toNat)
  case atStart => exact ⟨0, Nat.zero_le _, rfl, rfl⟩
  case round =>
    obtain ⟨k, hk, rfl, rfl⟩ := hrel
    have hjl := HLE.out k
    obtain ⟨m, hm⟩ : ∃ m, m = (joined ps k).length := ⟨_, rfl⟩
    rw [← hm] at hjl
    rw [← hm]
    by_cases hlt : k < n
    · have hkp : k < ps.length := by rw [HN.out]; exact hlt
      obtain ⟨hcl, harg⟩ := HC.out k hkp
      obtain ⟨a, c, hsh⟩ := harg.1.shape
      rw [hsh] at hcl
      have hjs := joined_succ ps k hkp
      obtain ⟨q, hq⟩ : ∃ q, q = ps[k].2.length := ⟨_, rfl⟩
      rw [← hq] at hcl
      have hj2 := HLE.out (k + 1)
      have hj3 : (joined ps (k + 1)).length = m + q := by rw [hjs, List.length_append, ← hm, ← hq]
      rw [hj3] at hj2
      have HJ := Lib.hid hj3
      clear hm hjs hq hsh harg hj3
      go_wp2
      go_round
      case rel => exact ⟨k + 1, by omega, by go_num, by rw [HJ.out]; go_num⟩
      case measure => simp [intOf]; omega
    · obtain rfl : k = n := by omega
      have hmS : m = S.length := by rw [hm, ← HN.out, HS.out]
      clear hm
      subst hmS
      go_wp2_with fail
      refine (grow_nil S.length hlen _).mono ?_
      rintro e w1 ⟨v0, rfl, hown0, hb0⟩
      have hsz1 := hb0.size
      go_wp2
      go_loopw [6, 27] (fun x c wr => ∃ j : Nat, j ≤ k ∧ c = .int .i64 j ∧ wr.ownsRow w.heap.size 5 1 x (joined ps j).length (byteCells (joined ps j)) ∧ Below w.heap.size w wr) (fun _ c _ => k - (intOf c).toNat)
      case atStart => exact ⟨0, Nat.zero_le _, rfl, by rw [joined_zero]; exact hown0, hb0⟩
      case round =>
        obtain ⟨j, hj, rfl, hown, hbw⟩ := hrel
        have hsz := hbw.size
        by_cases hlt2 : j < k
        · have hjp : j < ps.length := by rw [HN.out]; exact hlt2
          obtain ⟨hcl0, harg⟩ := HC.out j hjp
          have hcl : wr.cell? ⟨g, j, none⟩ = some ps[j].1 := by
            rw [hbw.cell (World.block_lt_of_cell? w _ hcl0)]; exact hcl0
          obtain ⟨vj, hvj⟩ : ∃ vj, vj = ps[j].1 := ⟨_, rfl⟩
          obtain ⟨lj, hlj⟩ : ∃ lj, lj = ps[j].2 := ⟨_, rfl⟩
          rw [← hvj] at hcl harg
          rw [← hlj] at harg
          have hjs := joined_succ ps j hjp
          rw [← hlj] at hjs
          have hj2 := HLE.out (j + 1)
          rw [hjs, List.length_append] at hj2
          have hV : (vj = .slice none 0 0 ∧ lj = []) ∨ ∃ ad c, vj = .slice (some ad) lj.length c ∧ ∀ i u, (byteCells lj)[i]? = some u → wr.cell? (ad.add i) = some u := by
            rcases harg.2 with h | ⟨ad, c, h1, h2⟩
            · exact .inl h
            · exact .inr ⟨ad, c, h1, fun i u hu => by
                have h3 := h2 i u hu
                rw [hbw.cell (World.block_lt_of_cell? w _ h3)]; exact h3⟩
          have HV := Lib.hid hV
          have HJ := Lib.hid hjs
          clear hjs hV hvj hlj harg hcl0
          go_wp2_with (at_builtin; refine wpList_append_isArg _ rfl _ _ 26 rfl w.heap.size 5 i0 (.int .u8 0) Try.underlying26 hi hz0 hz1 hz2 rfl _ _ _ rfl hown _ lj rfl ?c1 ?c2 ?c3 ?_)
          case c1 => exact HV.out
          case c2 => omega
          case c3 => exact hsz
          intro v' w2 hown2 hgrow2
          go_wp2
          go_roundw
          case rel =>
            refine ⟨j + 1, by omega, by go_num, ?_, hbw.grown hgrow2 hsz (fun i hi => (hown.lt i hi).1)⟩
            rw [HJ.out, List.length_append, byteCells_append]
            exact hown2
          case measure => simp [intOf]; omega
        · obtain rfl : j = k := by omega
          have hjS : joined ps j = S := by rw [HS.out, HN.out]
          rw [hjS] at hown
          clear hjS
          go_wp2
          go_ret
          exact ⟨_, rfl, hown, hbw⟩
end Go.Proofs.Ytofeiheomnpggaa
