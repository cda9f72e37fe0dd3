/- slices.Chunk of bytes of so many whole pieces of 64: each piece in its turn. -/
import Derived.RangeFuncNested
import Derived.RangeFuncBound
import Derived.RangeFuncCalls
import Derived.RangeFuncLeaves
import Derived.Shelf.Abstract
import Derived.Shelf.RegionOpen
import Derived.WalkKit
import Derived.OwnWalkIn
import Derived.TacticsInMore
import Derived.LoopNIn
import Derived.LoopIn
import Derived.Test.YtfaiblngchdpmaaDoorArg
namespace Go.Proofs.YtfaiblngchdpmaaDoor
open Go.RowKit Go.Shelf Go.Lib
attribute [local go_sem] Oper.semAt_some

set_option maxHeartbeats 400000 in
theorem chunk_any (v : Value) (l : List UInt8) (w : World) (hv : IsBytes w v l) :
    Calls Tryd.prog 28 #[v, .int .i64 64] w fun e w' => e = .returned (.func (.func 34) #[] #[.pointer (some ⟨w.heap.size, 0, none⟩), .pointer (some ⟨w.heap.size + 1, 0, none⟩)]) ∧ w' = (w.alloc (.cells #[v] 24)).alloc (.cells #[.int .i64 64] 3) := by
  obtain ⟨a, c, rfl⟩ := hv.shape
  clear hv
  go_enter Tryd.func28, Tryd.ntmps28
  go_wp2
  go_ret
  exact ⟨rfl, rfl⟩

/-- The first k of m. -/
def firstK (m k : Nat) (pre : List (Fin m)) : Prop := pre.map (·.val) = List.range k
theorem firstK_length {m k : Nat} {pre : List (Fin m)} (h : firstK m k pre) : pre.length = k := by
  have := congrArg List.length h
  simpa using this
theorem firstK_succ {m k : Nat} {pre : List (Fin m)} (h : firstK m k pre) (hk : k < m) : firstK m (k + 1) (pre ++ [⟨k, hk⟩]) := by
  unfold firstK at *
  rw [List.map_append, h, List.range_succ]
  rfl
def piece (b : Nat) (m : Nat) (j : Fin m) : Array Value := #[.slice (some ⟨b, 64 * j.val, none⟩) 64 64]

/-- What a round must keep: the two boxes that the iterator reads. -/
def Two (Bs Bn : Nat) (W W' : World) : Prop := W'.heap[Bs]? = W.heap[Bs]? ∧ W'.heap[Bn]? = W.heap[Bn]?
theorem Two.trans {Bs Bn : Nat} {A B C : World} (h : Two Bs Bn A B) (k : Two Bs Bn B C) : Two Bs Bn A C := ⟨k.1.trans h.1, k.2.trans h.2⟩
set_option maxRecDepth 100000 in
set_option maxHeartbeats 2000000 in
theorem chunk1_in (F : Fence) (n : Nat) (hf : F.fn 34) (hro : F.round = none) (hn : 1 ≤ n) (l Bs Bn b m M cap : Nat) (hM : M = 64 * m) (hm : m ≤ 1000000) (hcap : M ≤ cap) (J Jx : List (Fin m) → World → Prop) (W : World) (hJ : AbidesFrom W.heap.size J)
    (hY : ∀ pre x W, J pre W → pre.length < m → YieldAt F (n - 1) Tryd.prog l (piece b m x) W fun e W' =>
      (e = .returned (.bool true) ∧ J (pre ++ [x]) W' ∧ Two Bs Bn W W') ∨ (e = .returned (.bool false) ∧ Jx (pre ++ [x]) W'))
    (hcs : W.cell? ⟨Bs, 0, none⟩ = some (.slice (some ⟨b, 0, none⟩) M cap)) (hcn : W.cell? ⟨Bn, 0, none⟩ = some (.int .i64 64)) (h0 : J [] W) :
    CallsIn F n Tryd.prog 34 #[.func (.yield l) #[] #[], .pointer (some ⟨Bs, 0, none⟩), .pointer (some ⟨Bn, 0, none⟩)] W fun e W' => (∃ v, e = .returned v) ∧
      ((∃ ys, firstK m m ys ∧ J ys W') ∨ (∃ pre, True ∧ Jx pre W')) := by
  refine callsIn_of_wp Tryd.func34 rfl hf ?_ hro
  simp only [Tryd.ntmps34, List.size_toArray, List.length_cons, List.length_nil, Nat.reduceAdd, Nat.reduceSub, Array.replicate_succ, Array.replicate_zero, List.push_toArray, List.append_toArray, List.nil_append, List.cons_append]
  have HMm := Lib.hid hM
  have hmM : M ≤ 64000000 := by omega
  clear hM hm
  gi_wp2
  gi_loopw [4, 5] (fun i _ wr => ∃ (k q : Nat) (pre : List (Fin m)), Hid (q = 64 * k) ∧ k ≤ m ∧ i = .int .i64 q ∧ firstK m k pre ∧ J pre wr ∧ Two Bs Bn W wr)
    (fun i _ _ => M - (intOf i).toNat)
  case atStart => exact ⟨0, 0, [], Lib.hid rfl, Nat.zero_le _, rfl, rfl, h0, rfl, rfl⟩
  case round =>
    obtain ⟨k, q, pre, HQ, hk, rfl, hpre, hJs, hnx⟩ := hrel
    have c1 : wr.cell? ⟨Bs, 0, none⟩ = some (.slice (some ⟨b, 0, none⟩) M cap) := (World.cell?_of_block (w := W) (a := ⟨Bs, 0, none⟩) hnx.1).trans hcs
    have c2 : wr.cell? ⟨Bn, 0, none⟩ = some (.int .i64 64) := (World.cell?_of_block (w := W) (a := ⟨Bn, 0, none⟩) hnx.2).trans hcn
    by_cases hlt : k < m
    · obtain ⟨fn, tmps, assign, body, hy, hR⟩ := hY _ ⟨k, hlt⟩ wr.drew (hJ _ _ _ none hJs ⟨rfl, rfl, rfl, Nat.le_refl _, fun _ _ _ => rfl⟩ (fun r e => by cases e)) (by rw [firstK_length hpre]; exact hlt)
      simp only [piece] at hy
      have hq := HQ.out
      rw [← hq] at hy
      have hqM : q + 64 ≤ M := by have := HMm.out; omega
      have hqi : (q : Int) < (M : Int) := by omega
      have hsl := slice_from (some ⟨b, 0, none⟩) M cap q (by omega)
      rw [if_neg (by omega)] at hsl
      clear hq hY
      gi_wp2
      gi_region
      all_goals
        gi_wp2
        refine hR.mono ?_
        rintro e W3 (⟨rfl, hJ3, hk3⟩ | ⟨rfl, hJx3⟩)
        · have c3 : W3.cell? ⟨Bn, 0, none⟩ = some (.int .i64 64) := (World.cell?_of_block (w := W) (a := ⟨Bn, 0, none⟩) (hnx.trans hk3).2).trans hcn
          gi_wp2
          go_roundw
          case rel => exact ⟨k + 1, q + 64, _, Lib.hid (by have := HQ.out; omega), hlt, by go_num, firstK_succ hpre hlt, hJ3, hnx.trans hk3⟩
          case measure => simp [intOf]; omega
        · gi_wp2
          refine bodyPost_ret (results_none rfl _ _ _) rfl ?_
          exact ⟨⟨_, rfl⟩, .inr ⟨_, trivial, hJx3⟩⟩
    · obtain rfl : k = m := by omega
      have hqM : ¬ (q : Int) < (M : Int) := by have := HQ.out; have := HMm.out; omega
      gi_wp2
      go_end0
      exact ⟨⟨_, rfl⟩, .inl ⟨_, hpre, hJs⟩⟩
theorem chunk_stops (F : Fence) (n : Nat) (hf : F.fn 34) (hro : F.round = none) (hn : 1 ≤ n) (Bs Bn b m M cap : Nat) (hM : M = 64 * m) (hm : m ≤ 1000000) (hcap : M ≤ cap) (w : World)
    (hBs : Bs < w.heap.size) (hBn : Bn < w.heap.size) (hcs : w.cell? ⟨Bs, 0, none⟩ = some (.slice (some ⟨b, 0, none⟩) M cap)) (hcn : w.cell? ⟨Bn, 0, none⟩ = some (.int .i64 64)) :
    SeqStopsK F n Tryd.prog 34 #[.pointer (some ⟨Bs, 0, none⟩), .pointer (some ⟨Bn, 0, none⟩)] (piece b m) (Two Bs Bn) (fun ys => firstK m m ys) (fun _ => True) m w := fun l J Jx W hW hJ _ hY h0 =>
  chunk1_in F n hf hro hn l Bs Bn b m M cap hM hm hcap J Jx W hJ hY ((hW.cell (p := ⟨Bs, 0, none⟩) hBs).trans hcs) ((hW.cell (p := ⟨Bn, 0, none⟩) hBn).trans hcn) h0
end Go.Proofs.YtfaiblngchdpmaaDoor
