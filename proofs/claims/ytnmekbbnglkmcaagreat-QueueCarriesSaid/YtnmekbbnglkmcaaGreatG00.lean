import Derived.Lib.UnsafeStr
import Derived.Laws.MakeOwn
import Derived.IntWalk
import Derived.Below
import Derived.OpenShut
import Derived.Test.YtnmekbbnglkmcaaGreatRows
import Derived.WalkKit
import Derived.WalkSpells
import Derived.WalkLawsBesides
import Derived.Deep.RegionWith
import Derived.Deep.QuietTactic
import Derived.Deep.OwnRows
import Derived.BigQuiet
import Derived.Lib.Hide
import Derived.Deep.DeepCutAuto
import Derived.Laws.AppendOwnNone
import Derived.Lib.BufferWrite
import Derived.Lib.AppendZeros
import Derived.Lib.SliceRun
import Derived.Laws.OwnMore
import Derived.Deep.DeepMust
import Derived.Deep.RegionHeld3
import Derived.Laws.EntriesVeiled
namespace Go.Proofs.YtnmekbbnglkmcaaGreat
open Go Go.Lib
def leB (n k : Nat) : List UInt8 := (List.range k).map fun i => UInt8.ofNat (n / 256 ^ i)
def beB (n k : Nat) : List UInt8 := (leB n k).reverse
def zeros (k : Nat) : List Value := List.replicate k (.int .u8 0)
@[simp] theorem leB_length (n k : Nat) : (leB n k).length = k := by simp [leB]
@[simp] theorem beB_length (n k : Nat) : (beB n k).length = k := by simp [beB]
theorem leB_succ (n k : Nat) : leB n (k + 1) = leB n k ++ [UInt8.ofNat (n / 256 ^ k)] := by simp [leB, List.range_succ]
theorem made_zeros (k : Nat) : (madeCells #[Value.int .u8 0] k).toList = zeros k := by
 unfold madeCells zeros
 rw [Array.toList_map, Array.toList_range]
 apply List.ext_getElem
 · simp
 · intro i h1 h2
   simp [Nat.mod_one]
theorem zeros_succ (k : Nat) : zeros (k + 1) = .int .u8 0 :: zeros k := by simp [zeros, List.replicate_succ]
def loRow (n k i : Nat) : List Value := byteCells (leB n i) ++ zeros (k - i)
def hiRow (n k i : Nat) : List Value := zeros (k - i) ++ byteCells (beB n i)
@[simp] theorem loRow_length (n k i : Nat) (h : i ≤ k) : (loRow n k i).length = k := by simp [loRow, zeros, byteCells]; omega
@[simp] theorem hiRow_length (n k i : Nat) (h : i ≤ k) : (hiRow n k i).length = k := by simp [hiRow, zeros, byteCells]; omega
theorem loRow_zero (n k : Nat) : loRow n k 0 = zeros k := by simp [loRow, leB, byteCells]
theorem loRow_all (n k : Nat) : loRow n k k = byteCells (leB n k) := by simp [loRow, zeros]
theorem loRow_set (n k i : Nat) (h : i < k) : (loRow n k i).set i (.int .u8 ((n / 256 ^ i % 256 : Nat) : Int)) = loRow n k (i + 1) := by
 unfold loRow
 obtain ⟨m, hm⟩ : ∃ m, k - i = m + 1 := ⟨k - i - 1, by omega⟩
 have hm' : k - (i + 1) = m := by omega
 rw [hm, hm', zeros_succ, leB_succ, byteCells_append, List.set_append]
 simp [byteCells]
theorem loRow_at (n k i : Nat) (h : i < k) : (loRow n k i)[i]? = some (.int .u8 0) := by
 unfold loRow
 obtain ⟨m, hm⟩ : ∃ m, k - i = m + 1 := ⟨k - i - 1, by omega⟩
 rw [hm, zeros_succ, List.getElem?_append]
 simp [byteCells]
theorem row_set {w : World} {g i : Nat} {xs : List Value} {t : TypeId} {fr : Nat × Nat} (h : w.heap[g]? = some (.cells xs.toArray t fr)) (v : Value) :
 (w.setCell ⟨g, i, none⟩ v).heap[g]? = some (.cells (xs.set i v).toArray t fr) := by
 simp [World.setCell, Array.getElem?_modify, h]
theorem row_alloc {w : World} {g : Nat} {o : Obj} (h : w.heap[g]? = some o) (o' : Obj) : (w.alloc o').heap[g]? = some o := by
 show (w.heap.push o')[g]? = _
 rw [Array.getElem?_push, if_neg (by have := (Array.getElem?_eq_some_iff.1 h).1; omega)]; exact h
theorem row_drew {w : World} {g : Nat} {o : Obj} (h : w.heap[g]? = some o) : w.drew.heap[g]? = some o := h
theorem byte_put (n i : Nat) : (n : Int) / 2 ^ (8 * i) % 256 = ((n / 256 ^ i % 256 : Nat) : Int) := by
 rw [Int.natCast_emod, Int.natCast_ediv, Int.natCast_pow, show ((2 : Int) ^ (8 * i)) = 256 ^ i by rw [Int.pow_mul]; rfl]
 rfl
theorem owns_of_row {w : World} {g k base : Nat} {xs : List Value} {t : TypeId} (h : w.heap[g]? = some (.cells xs.toArray t (0, 0))) (hb : base ≤ g) (hx : xs.length = k) (hk : k ≤ maxLen) :
 w.ownsRow base t 1 (.slice (some ⟨g, 0, none⟩) k k) k xs :=
 ⟨by omega, .inr ⟨g, k, _, rfl, hb, h, Nat.le_refl _, hk, by simp [hx], by simp [← hx]⟩⟩
def IsBytes (w : World) (v : Value) (l : List UInt8) : Prop :=
 (∃ a c, v = .slice a 0 c ∧ l = []) ∨ ∃ b off cap, v = .slice (some ⟨b, off, none⟩) l.length cap ∧ l.length ≤ cap ∧ cap ≤ maxLen ∧ b < w.heap.size ∧ ∀ i, i < l.length → w.cell? ⟨b, off + i, none⟩ = some (.int .u8 (l.getD i 0).toNat)
def leN : List UInt8 → Nat
 | [] => 0
 | b :: r => b.toNat + 256 * leN r
def beN (l : List UInt8) : Nat := leN l.reverse
theorem leN_lt (l : List UInt8) : leN l < 256 ^ l.length := by
 induction l with
 | nil => simp [leN]
 | cons b r ih => simp only [leN, List.length_cons, Nat.pow_succ]; have := b.toNat_lt; omega
theorem leN_snoc (l : List UInt8) (b : UInt8) : leN (l ++ [b]) = leN l + b.toNat * 256 ^ l.length := by
 induction l with
 | nil => simp [leN]
 | cons c r ih => simp only [List.cons_append, leN, ih, List.length_cons, Nat.pow_succ]; rw [Nat.mul_add, ← Nat.add_assoc, Nat.mul_comm 256 (_ * _), Nat.mul_assoc]
theorem leN_take (l : List UInt8) (i : Nat) (h : i < l.length) : leN (l.take (i + 1)) = leN (l.take i) + (l[i]?.getD 0).toNat * 256 ^ i := by
 rw [List.take_succ_eq_append_getElem h, leN_snoc, List.length_take, Nat.min_eq_left (by omega), List.getElem?_eq_getElem h]; rfl
theorem or_step (N i : Nat) (b : UInt8) (hN : N < 256 ^ i) (hi : i < 8) :
 bits BinOp.or IntKind.u64 (N : Int) (IntKind.u64.wrap (IntKind.u64.wrap ((b.toNat : Nat) : Int) * 2 ^ (8 * i))) = ((N + b.toNat * 256 ^ i : Nat) : Int) := by
 have hb := b.toNat_lt
 have hp : 256 ^ i * 256 ≤ 256 ^ 8 := by rw [← Nat.pow_succ]; exact Nat.pow_le_pow_right (by decide) (by omega)
 have hb1 : b.toNat * 256 ^ i + 256 ^ i ≤ 256 ^ i * 256 := by
  rw [Nat.mul_comm (256 ^ i) 256, ← Nat.succ_mul]; exact Nat.mul_le_mul_right _ (by omega)
 have h88 : (256 : Nat) ^ 8 = 18446744073709551616 := rfl
 have e1 : IntKind.u64.wrap ((b.toNat : Nat) : Int) = ((b.toNat : Nat) : Int) := IntWalk.u64_in _ (by omega)
 have e2 : ((b.toNat : Nat) : Int) * 2 ^ (8 * i) = ((b.toNat * 256 ^ i : Nat) : Int) := by
  rw [Int.natCast_mul, Int.natCast_pow, show ((2 : Int) ^ (8 * i)) = 256 ^ i by rw [Int.pow_mul]; rfl]; rfl
 rw [e1, e2, IntWalk.u64_in _ (by omega)]
 have e3 : (b.toNat * 256 ^ i) ||| N = b.toNat * 256 ^ i + N := by
  have h2 : (256 : Nat) ^ i = 2 ^ (8 * i) := by rw [Nat.pow_mul]
  have := Nat.shiftLeft_add_eq_or_of_lt (i := 8 * i) (b := N) (by rw [← h2]; exact hN) b.toNat
  rw [Nat.shiftLeft_eq, ← h2] at this
  exact this.symm
 show IntKind.u64.wrap (((BitVec.ofInt 64 (N : Int)) ||| (BitVec.ofInt 64 ((b.toNat * 256 ^ i : Nat) : Int))).toNat : Int) = _
 have c1 : (BitVec.ofInt 64 (N : Int)) = BitVec.ofNat 64 N := BitVec.ofInt_natCast ..
 have c2 : (BitVec.ofInt 64 ((b.toNat * 256 ^ i : Nat) : Int)) = BitVec.ofNat 64 (b.toNat * 256 ^ i) := BitVec.ofInt_natCast ..
 rw [c1, c2]
 rw [show (BitVec.ofNat 64 N ||| BitVec.ofNat 64 (b.toNat * 256 ^ i)).toNat = N + b.toNat * 256 ^ i by
  rw [BitVec.toNat_or, BitVec.toNat_ofNat, BitVec.toNat_ofNat, Nat.mod_eq_of_lt (by omega), Nat.mod_eq_of_lt (by omega), Nat.or_comm, e3, Nat.add_comm]]
 exact IntWalk.u64_in _ (by omega)
theorem take_len8 (l : List UInt8) : l.take (l.take 8).length = l.take 8 := by rw [List.length_take, ← List.take_eq_take_min]
theorem lo_end (l : List UInt8) (m : Nat) (h : m = (l.take 8).length) : leN (l.take m) = leN (l.take 8) := by rw [h, take_len8]
theorem div_step (n i q : Nat) (h : q = n / 256 ^ i) : ((n / 256 ^ (i + 1) : Nat) : Int) = (q : Int) / 256 := by
 rw [h, Nat.pow_succ, ← Nat.div_div_eq_div_mul, Int.natCast_ediv]; rfl
theorem isBytes_of_owns {w : World} {base : Nat} {t : TypeId} {v : Value} {l : List UInt8} (h : w.ownsRow base t 1 v l.length (byteCells l)) : IsBytes w v l := by
 rcases h.2 with ⟨rfl, h0⟩ | ⟨g, cap, cur, rfl, _, hg, hn, hm, _, htk⟩
 · exact .inl ⟨none, 0, rfl, List.length_eq_zero_iff.1 h0⟩
 · refine .inr ⟨g, 0, cap, rfl, hn, hm, (Array.getElem?_eq_some_iff.1 hg).1, fun i hi => ?_⟩
   have hc := World.ownsRow.cells h (g := g) rfl i (.int .u8 (l.getD i 0).toNat) (by simp [byteCells, hi])
   rw [Addr.add_lit] at hc
   exact hc
theorem IsBytes.below {w w' : World} {v : Value} {l : List UInt8} (h : IsBytes w v l) (hb : RowKit.Below w.heap.size w w') : IsBytes w' v l := by
 rcases h with h | ⟨b, off, cap, rfl, h1, h2, h3, h4⟩
 · exact .inl h
 · exact .inr ⟨b, off, cap, rfl, h1, h2, Nat.lt_of_lt_of_le h3 hb.size, fun i hi => by rw [hb.cell (by simpa using h3)]; exact h4 i hi⟩
theorem ownsRow_base {w : World} {base base' : Nat} {t : TypeId} {size : Nat} {v : Value} {n : Nat} {xs : List Value} (h : w.ownsRow base t size v n xs) (hb : base' ≤ base) : w.ownsRow base' t size v n xs := by
 refine ⟨h.1, ?_⟩
 rcases h.2 with h2 | ⟨g, cap, cur, hv, hg, r⟩
 · exact .inl h2
 · exact .inr ⟨g, cap, cur, hv, Nat.le_trans hb hg, r⟩
def p256 (i : Nat) : Nat := 256 ^ i % 18446744073709551616
theorem wrap64u (n : Int) : IntKind.u64.wrap n = n % 18446744073709551616 := by simp [IntKind.wrap, IntKind.bits, IntKind.signed]
theorem isBytes_of_ints {w : World} {x : Addr} {len cap : Nat} {zs : List Int} (hl : len ≤ cap) (hm : cap ≤ maxLen) (hz : zs.length = cap)
 (hc : ∀ i, i < zs.length → w.cell? (x.add i) = some (.int .u8 (zs.getD i 0))) (hw : ∀ n ∈ zs, (Lit.int .u8 n).wf = true) :
 IsBytes w (.slice (some x) len cap) ((zs.take len).map fun z => UInt8.ofNat z.toNat) := by
 by_cases h0 : len = 0
 · subst h0; exact .inl ⟨_, _, rfl, by simp⟩
 · have hlen : ((zs.take len).map fun z => UInt8.ofNat z.toNat).length = len := by simp; omega
   obtain ⟨b, off, rfl, hc'⟩ := ints_at hc (by omega)
   refine .inr ⟨b, off, cap, by rw [hlen], by omega, hm, ?_, fun i hi => ?_⟩
   · have := World.block_lt_of_cell? w _ (hc' 0 (by omega)); exact this
   · rw [hlen] at hi
     rw [hc' i (by omega)]
     have hz2 : i < zs.length := by omega
     have hb := bounds_u8 (hw zs[i] (List.getElem_mem hz2))
     simp only [List.getD_eq_getElem?_getD, List.getElem?_map, List.getElem?_take, if_pos hi, List.getElem?_eq_getElem hz2, Option.map_some, Option.getD_some]
     congr 2
     rw [UInt8.toNat_ofNat']
     omega
theorem turned (n k i : Nat) (h : i < k) : (beB n k).getD (k - 1 - i) 0 = (leB n k).getD i 0 := by
 have h1 : k - 1 - (k - 1 - i) = i := by omega
 simp [beB, List.getElem?_reverse (show k - 1 - i < (leB n k).length by simp; omega), h1]
end Go.Proofs.YtnmekbbnglkmcaaGreat
namespace Go.Proofs.YtnmekbbnglkmcaaGreat
def faultOf (L : Nat) (a n : Int) : Int := if L ≤ 8192 then (if 0 ≤ a ∧ a ≤ L ∧ 0 ≤ n ∧ n ≤ L - a then 0 else 40) else 3
def sizeFaultOf (L : Nat) (n : Int) : Int := if L ≤ 8192 then (if 1 ≤ n ∧ n ≤ 8 then 0 else 2) else 3
def getOf (l : List UInt8) (a n : Int) : List UInt8 := if faultOf l.length a n = 0 then (l.drop a.toNat).take n.toNat else []
def putOf (l : List UInt8) (a : Int) (b : List UInt8) : List UInt8 := if faultOf l.length a b.length = 0 then l.take a.toNat ++ b ++ l.drop (a.toNat + b.length) else l
theorem fault_zero {L : Nat} {a n : Int} (h : faultOf L a n = 0) : L ≤ 8192 ∧ 0 ≤ a ∧ a ≤ L ∧ 0 ≤ n ∧ n ≤ L - a := by
 unfold faultOf at h
 split at h
 · split at h
   · omega
   · omega
 · omega
theorem fault_of {L : Nat} {a n : Int} (h0 : L ≤ 8192) (h1 : 0 ≤ a) (h2 : a ≤ L) (h3 : 0 ≤ n) (h4 : n ≤ L - a) : faultOf L a n = 0 := by
 unfold faultOf
 rw [if_pos h0, if_pos ⟨h1, h2, h3, h4⟩]
theorem fault_cases (L : Nat) (a n : Int) : (faultOf L a n = 3 ∧ 8192 < L) ∨ (faultOf L a n = 40 ∧ L ≤ 8192 ∧ ¬ (0 ≤ a ∧ a ≤ L ∧ 0 ≤ n ∧ n ≤ L - a)) ∨ (faultOf L a n = 0 ∧ L ≤ 8192 ∧ 0 ≤ a ∧ a ≤ L ∧ 0 ≤ n ∧ n ≤ L - a) := by
 unfold faultOf
 split
 · split
   · exact .inr (.inr ⟨rfl, by omega, by omega⟩)
   · exact .inr (.inl ⟨rfl, by omega, by assumption⟩)
 · exact .inl ⟨rfl, by omega⟩
theorem size_cases (L : Nat) (n : Int) : (sizeFaultOf L n = 3 ∧ 8192 < L) ∨ (sizeFaultOf L n = 2 ∧ L ≤ 8192 ∧ ¬ (1 ≤ n ∧ n ≤ 8)) ∨ (sizeFaultOf L n = 0 ∧ L ≤ 8192 ∧ 1 ≤ n ∧ n ≤ 8) := by
 unfold sizeFaultOf
 split
 · split
   · exact .inr (.inr ⟨rfl, by omega, by omega⟩)
   · exact .inr (.inl ⟨rfl, by omega, by assumption⟩)
 · exact .inl ⟨rfl, by omega⟩
theorem getOf_some {l : List UInt8} {a n : Int} (h : faultOf l.length a n = 0) : getOf l a n = (l.drop a.toNat).take n.toNat := by rw [getOf, if_pos h]
theorem getOf_none {l : List UInt8} {a n : Int} (h : faultOf l.length a n ≠ 0) : getOf l a n = [] := by rw [getOf, if_neg h]
theorem putOf_some {l b : List UInt8} {a : Int} (h : faultOf l.length a b.length = 0) : putOf l a b = l.take a.toNat ++ b ++ l.drop (a.toNat + b.length) := by rw [putOf, if_pos h]
theorem putOf_none {l b : List UInt8} {a : Int} (h : faultOf l.length a b.length ≠ 0) : putOf l a b = l := by rw [putOf, if_neg h]
theorem putOf_length (l : List UInt8) (a : Int) (b : List UInt8) : (putOf l a b).length = l.length := by
 by_cases h : faultOf l.length a b.length = 0
 · obtain ⟨h0, h1, h2, h3, h4⟩ := fault_zero h
   rw [putOf_some h]
   simp
   omega
 · rw [putOf_none h]
end Go.Proofs.YtnmekbbnglkmcaaGreat
namespace Go.Proofs.YtnmekbbnglkmcaaGreat
theorem leB_congr {n m k : Nat} (h : n % 256 ^ k = m % 256 ^ k) : leB n k = leB m k := by
 induction k with
 | zero => simp [leB]
 | succ k ih =>
   have h1 : n % 256 ^ k = m % 256 ^ k := by
    have e1 := Nat.mod_mul_right_mod n (256 ^ k) 256
    have e2 := Nat.mod_mul_right_mod m (256 ^ k) 256
    rw [← Nat.pow_succ] at e1 e2
    rw [← e1, ← e2, h]
   have h2 : n / 256 ^ k % 256 = m / 256 ^ k % 256 := by
    have e1 := Nat.mod_mul_right_div_self n (256 ^ k) 256
    have e2 := Nat.mod_mul_right_div_self m (256 ^ k) 256
    rw [← Nat.pow_succ] at e1 e2
    rw [← e1, ← e2, h]
   rw [leB_succ, leB_succ, ih h1]
   congr 2
   apply UInt8.toNat_inj.1
   simpa using h2
theorem leN_leBk (n k : Nat) : leN (leB n k) = n % 256 ^ k := by
 induction k with
 | zero => simp [leB, leN, Nat.mod_one]
 | succ k ih =>
   rw [leB_succ, leN_snoc, ih, leB_length, Nat.pow_succ]
   have h := Nat.mod_mul (x := n) (a := 256 ^ k) (b := 256)
   rw [h]
   have h2 : (UInt8.ofNat (n / 256 ^ k)).toNat = n / 256 ^ k % 256 := by simp
   rw [h2, Nat.mul_comm]
theorem leB_leN (l : List UInt8) (k : Nat) (h : l.length = k) : leB (leN l) k = l := by
 subst h
 induction hl : l.length generalizing l with
 | zero =>
   obtain rfl := List.eq_nil_of_length_eq_zero hl
   rfl
 | succ n ih =>
   obtain ⟨a, b, rfl⟩ : ∃ a b, l = a ++ [b] := ⟨l.dropLast, l.getLast (by intro h; simp [h] at hl), (List.dropLast_concat_getLast _).symm⟩
   have ha : a.length = n := by simpa using hl
   have hp : 0 < 256 ^ n := Nat.pow_pos (by decide)
   have hlt := leN_lt a
   rw [ha] at hlt
   rw [leB_succ, leN_snoc, ha]
   have h1 : leB (leN a + b.toNat * 256 ^ n) n = leB (leN a) n := leB_congr (by rw [Nat.add_mul_mod_self_right])
   rw [h1, ih a ha]
   have h2 : (leN a + b.toNat * 256 ^ n) / 256 ^ n = b.toNat := by
    rw [Nat.add_mul_div_right _ _ hp, Nat.div_eq_of_lt hlt, Nat.zero_add]
   rw [h2]
   simp
def numAt (l : List UInt8) (p k : Nat) : Nat := leN ((l.drop p).take k)
def putAt (l : List UInt8) (p k x : Nat) : List UInt8 := l.take p ++ leB x k ++ l.drop (p + k)
theorem putAt_length {l : List UInt8} {p k : Nat} (x : Nat) (h : p + k ≤ l.length) : (putAt l p k x).length = l.length := by
 simp [putAt]
 omega
theorem numAt_lt (l : List UInt8) (p k : Nat) : numAt l p k < 256 ^ k := by
 unfold numAt
 refine Nat.lt_of_lt_of_le (leN_lt _) (Nat.pow_le_pow_right (by decide) ?_)
 simp
 omega
theorem putAt_get {l : List UInt8} {p k : Nat} (x : Nat) (h : p + k ≤ l.length) (i : Nat) : (putAt l p k x)[i]? = if i < p then l[i]? else if i < p + k then (leB x k)[i - p]? else l[i]? := by
 have h1 : (l.take p).length = p := by simp; omega
 have h2 : (l.take p ++ leB x k).length = p + k := by simp; omega
 unfold putAt
 by_cases c1 : i < p
 · rw [if_pos c1, List.getElem?_append_left (by omega), List.getElem?_append_left (by omega), List.getElem?_take, if_pos c1]
 · rw [if_neg c1]
   by_cases c2 : i < p + k
   · rw [if_pos c2, List.getElem?_append_left (by omega), List.getElem?_append_right (by omega), h1]
   · rw [if_neg c2, List.getElem?_append_right (by omega), h2, List.getElem?_drop, show p + k + (i - (p + k)) = i by omega]
theorem part_same {l : List UInt8} {p k : Nat} (x : Nat) (h : p + k ≤ l.length) : ((putAt l p k x).drop p).take k = leB x k := by
 have h1 : (l.take p).length = p := by simp; omega
 unfold putAt
 rw [List.append_assoc, List.drop_append_of_le_length (by omega), List.drop_eq_nil_of_le (by omega), List.nil_append, List.take_append_of_le_length (by simp), List.take_of_length_le (by simp)]
theorem part_other {l : List UInt8} {p k : Nat} (x : Nat) (h : p + k ≤ l.length) {q j : Nat} (hd : q + j ≤ p ∨ p + k ≤ q) : ((putAt l p k x).drop q).take j = (l.drop q).take j := by
 apply List.ext_getElem?
 intro i
 rw [List.getElem?_take, List.getElem?_take]
 by_cases hi : i < j
 · rw [if_pos hi, if_pos hi, List.getElem?_drop, List.getElem?_drop, putAt_get x h]
   rcases hd with hd | hd
   · rw [if_pos (by omega)]
   · rw [if_neg (by omega), if_neg (by omega)]
 · rw [if_neg hi, if_neg hi]
theorem numAt_same {l : List UInt8} {p k : Nat} (x : Nat) (h : p + k ≤ l.length) : numAt (putAt l p k x) p k = x % 256 ^ k := by
 rw [numAt, part_same x h, leN_leBk]
theorem numAt_other {l : List UInt8} {p k : Nat} (x : Nat) (h : p + k ≤ l.length) {q j : Nat} (hd : q + j ≤ p ∨ p + k ≤ q) : numAt (putAt l p k x) q j = numAt l q j := by
 rw [numAt, part_other x h hd, numAt]
theorem putAt_self {l : List UInt8} {p k : Nat} (h : p + k ≤ l.length) : putAt l p k (numAt l p k) = l := by
 have h1 : ((l.drop p).take k).length = k := by simp; omega
 unfold putAt numAt
 rw [leB_leN _ k h1, List.append_assoc, show l.drop (p + k) = (l.drop p).drop k by rw [List.drop_drop], List.take_append_drop, List.take_append_drop]
theorem putAt_mod (l : List UInt8) (p k : Nat) {x y : Nat} (h : x % 256 ^ k = y % 256 ^ k) : putAt l p k x = putAt l p k y := by
 unfold putAt
 rw [leB_congr h]
def RightN (N : Nat) : Prop := N = 1 ∨ N = 2 ∨ N = 4 ∨ N = 8 ∨ N = 16
theorem RightN.le {N : Nat} (h : RightN N) : 1 ≤ N ∧ N ≤ 16 := by unfold RightN at h; omega
def rightB (z : Int) : Bool := decide (z = 1 ∨ z = 2 ∨ z = 4 ∨ z = 8 ∨ z = 16)
theorem rightB_of {N : Nat} (h : RightN N) : rightB (N : Int) = true := decide_eq_true (by unfold RightN at h; omega)
theorem right_of {z : Int} (h : rightB z = true) : ∃ N : Nat, z = N ∧ RightN N := by
 have h := of_decide_eq_true h
 exact ⟨z.toNat, by omega, by unfold RightN; omega⟩
def secN (N : Nat) : Nat := (18 * N + 7) / 4 * 4
def sizeN (N : Nat) : Nat := secN N + 4 + 8 * N
def sizeZ (z : Int) : Int := if rightB z = true then (sizeN z.toNat : Nat) else 0
theorem sizeZ_of {N : Nat} (h : RightN N) : sizeZ (N : Int) = (sizeN N : Nat) := by rw [sizeZ, if_pos (rightB_of h), Int.toNat_natCast]
theorem sizeZ_not {z : Int} (h : rightB z = false) : sizeZ z = 0 := by rw [sizeZ, if_neg (by rw [h]; decide)]
theorem sizeN_le (N : Nat) : 18 * N + 4 ≤ secN N ∧ secN N ≤ 18 * N + 7 ∧ sizeN N = secN N + 4 + 8 * N := by
 unfold sizeN secN
 omega
def okR (L : Nat) (b z : Int) : Bool := decide (L ≤ 8192) && (rightB z && decide (0 ≤ b ∧ b ≤ (L : Int) - sizeZ z))
def ringF (L : Nat) (b z : Int) : Int := if okR L b z = true then 0 else 70
def descF (L : Nat) (b z i : Int) : Int := if okR L b z = true then (if 0 ≤ i ∧ i < z then 0 else 2) else 70
structure RingOk (L B N : Nat) : Prop where
 few : L ≤ 8192
 right : RightN N
 fits : B + sizeN N ≤ L
theorem RingOk.ok {L B N : Nat} (h : RingOk L B N) : okR L (B : Int) (N : Int) = true := by
 have h1 := h.fits
 unfold okR
 rw [decide_eq_true h.few, rightB_of h.right, decide_eq_true]
 · rfl
 · rw [sizeZ_of h.right]; omega
theorem ok_of {L : Nat} {b z : Int} (h : okR L b z = true) : ∃ B N : Nat, b = B ∧ z = N ∧ RingOk L B N := by
 unfold okR at h
 rw [Bool.and_eq_true, Bool.and_eq_true] at h
 obtain ⟨h1, h2, h3⟩ := h
 have h1 := of_decide_eq_true h1
 obtain ⟨N, rfl, hN⟩ := right_of h2
 have h3 := of_decide_eq_true h3
 rw [sizeZ_of hN] at h3
 exact ⟨b.toNat, N, by omega, rfl, h1, hN, by omega⟩
theorem ring_cases (L : Nat) (b z : Int) : (okR L b z = false ∧ ringF L b z = 70) ∨ ∃ B N : Nat, b = B ∧ z = N ∧ RingOk L B N ∧ ringF L b z = 0 := by
 cases h : okR L b z with
 | false => exact .inl ⟨rfl, by rw [ringF, h]; rfl⟩
 | true =>
   obtain ⟨B, N, h1, h2, h3⟩ := ok_of h
   exact .inr ⟨B, N, h1, h2, h3, by rw [ringF, h]; rfl⟩
theorem desc_cases (L : Nat) (b z i : Int) : (okR L b z = false ∧ descF L b z i = 70) ∨ (okR L b z = true ∧ ¬ (0 ≤ i ∧ i < z) ∧ descF L b z i = 2) ∨ ∃ B N I : Nat, b = B ∧ z = N ∧ i = I ∧ I < N ∧ RingOk L B N ∧ descF L b z i = 0 := by
 cases h : okR L b z with
 | false => exact .inl ⟨rfl, by rw [descF, h]; rfl⟩
 | true =>
   by_cases hi : 0 ≤ i ∧ i < z
   · obtain ⟨B, N, h1, h2, h3⟩ := ok_of h
     exact .inr (.inr ⟨B, N, i.toNat, h1, h2, by omega, by omega, h3, by rw [descF, if_pos h, if_pos hi]⟩)
   · exact .inr (.inl ⟨rfl, hi, by rw [descF, if_pos h, if_neg hi]⟩)
def descX (l : List UInt8) (b z i : Int) (o k : Nat) : Nat := if descF l.length b z i = 0 then numAt l (b.toNat + 16 * i.toNat + o) k else 0
def setD (l : List UInt8) (p a n f x : Nat) : List UInt8 := putAt (putAt (putAt (putAt l p 8 a) (p + 8) 4 n) (p + 12) 2 f) (p + 14) 2 x
def setX (l : List UInt8) (b z i : Int) (a n f x : Nat) : List UInt8 := if descF l.length b z i = 0 then setD l (b.toNat + 16 * i.toNat) a n f x else l
def availX (l : List UInt8) (b z : Int) : Nat := if ringF l.length b z = 0 then numAt l (b.toNat + 16 * z.toNat + 2) 2 else 0
def availAtX (l : List UInt8) (b z : Int) (at_ : Nat) : Nat := if ringF l.length b z = 0 then numAt l (b.toNat + 16 * z.toNat + 4 + 2 * (at_ % z.toNat)) 2 else 0
def offerD (l : List UInt8) (B N at_ h : Nat) : List UInt8 := putAt (putAt l (B + 16 * N + 4 + 2 * (at_ % N)) 2 h) (B + 16 * N + 2) 2 (at_ + 1)
def offerX (l : List UInt8) (b z : Int) (at_ : Nat) (h : Int) : List UInt8 := if ringF l.length b z = 0 then offerD l b.toNat z.toNat at_ (h % 65536).toNat else l
def usedX (l : List UInt8) (b z : Int) : Nat := if ringF l.length b z = 0 then numAt l (b.toNat + secN z.toNat + 2) 2 else 0
def usedAtX (l : List UInt8) (b z : Int) (at_ o : Nat) : Nat := if ringF l.length b z = 0 then numAt l (b.toNat + secN z.toNat + 4 + 8 * (at_ % z.toNat) + o) 4 else 0
def returnD (l : List UInt8) (B N at_ a n : Nat) : List UInt8 := putAt (putAt (putAt l (B + secN N + 4 + 8 * (at_ % N)) 4 a) (B + secN N + 4 + 8 * (at_ % N) + 4) 4 n) (B + secN N + 2) 2 (at_ + 1)
def returnX (l : List UInt8) (b z : Int) (at_ a n : Nat) : List UInt8 := if ringF l.length b z = 0 then returnD l b.toNat z.toNat at_ a n else l
end Go.Proofs.YtnmekbbnglkmcaaGreat
namespace Go.Proofs.YtnmekbbnglkmcaaGreat
theorem mod_small {a b : Nat} (h : a < b) : a % b = a := Nat.mod_eq_of_lt h
theorem setD_length {l : List UInt8} {p : Nat} (a n f x : Nat) (h : p + 16 ≤ l.length) : (setD l p a n f x).length = l.length := by
 unfold setD
 have h1 := putAt_length (l := l) (p := p) (k := 8) a (by omega)
 have h2 := putAt_length (l := putAt l p 8 a) (p := p + 8) (k := 4) n (by omega)
 have h3 := putAt_length (l := putAt (putAt l p 8 a) (p + 8) 4 n) (p := p + 12) (k := 2) f (by omega)
 rw [putAt_length x (by omega), h3, h2, h1]
theorem setD_other {l : List UInt8} {p q j : Nat} (a n f x : Nat) (h : p + 16 ≤ l.length) (hd : q + j ≤ p ∨ p + 16 ≤ q) : numAt (setD l p a n f x) q j = numAt l q j := by
 unfold setD
 have h1 := putAt_length (l := l) (p := p) (k := 8) a (by omega)
 have h2 := putAt_length (l := putAt l p 8 a) (p := p + 8) (k := 4) n (by omega)
 have h3 := putAt_length (l := putAt (putAt l p 8 a) (p + 8) 4 n) (p := p + 12) (k := 2) f (by omega)
 rw [numAt_other x (by omega) (by omega), numAt_other f (by omega) (by omega), numAt_other n (by omega) (by omega), numAt_other a (by omega) (by omega)]
theorem setD_there {l : List UInt8} {p : Nat} (a n f x : Nat) (h : p + 16 ≤ l.length) (ha : a < 18446744073709551616) (hn : n < 4294967296) (hf : f < 65536) (hx : x < 65536) :
 numAt (setD l p a n f x) p 8 = a ∧ numAt (setD l p a n f x) (p + 8) 4 = n ∧ numAt (setD l p a n f x) (p + 12) 2 = f ∧ numAt (setD l p a n f x) (p + 14) 2 = x := by
 unfold setD
 have h1 := putAt_length (l := l) (p := p) (k := 8) a (by omega)
 have h2 := putAt_length (l := putAt l p 8 a) (p := p + 8) (k := 4) n (by omega)
 have h3 := putAt_length (l := putAt (putAt l p 8 a) (p + 8) 4 n) (p := p + 12) (k := 2) f (by omega)
 refine ⟨?_, ?_, ?_, ?_⟩
 · rw [numAt_other x (by omega) (by omega), numAt_other f (by omega) (by omega), numAt_other n (by omega) (by omega), numAt_same a (by omega)]
   exact mod_small ha
 · rw [numAt_other x (by omega) (by omega), numAt_other f (by omega) (by omega), numAt_same n (by omega)]
   exact mod_small hn
 · rw [numAt_other x (by omega) (by omega), numAt_same f (by omega)]
   exact mod_small hf
 · rw [numAt_same x (by omega)]
   exact mod_small hx
theorem RingOk.lie {L B N : Nat} (h : RingOk L B N) : 1 ≤ N ∧ N ≤ 16 ∧ 18 * N + 4 ≤ secN N ∧ B + secN N + 4 + 8 * N ≤ L ∧ L ≤ 8192 := by
 have h1 := h.right.le
 have h2 := sizeN_le N
 have h3 := h.fits
 exact ⟨h1.1, h1.2, h2.1, by omega, h.few⟩
theorem mod_in {k N : Nat} (h : 1 ≤ N) : k % N < N := Nat.mod_lt _ h
theorem offerD_length {l : List UInt8} {B N : Nat} (k h : Nat) (hok : RingOk l.length B N) : (offerD l B N k h).length = l.length := by
 obtain ⟨h1, h2, h3, h4, h5⟩ := hok.lie
 have h6 := mod_in (k := k) h1
 have h7 := putAt_length (l := l) (p := B + 16 * N + 4 + 2 * (k % N)) (k := 2) h (by omega)
 rw [offerD, putAt_length _ (by omega), h7]
theorem offerD_other {l : List UInt8} {B N q j : Nat} (k h : Nat) (hok : RingOk l.length B N) (hd : q + j ≤ B + 16 * N + 2 ∨ B + secN N ≤ q) : numAt (offerD l B N k h) q j = numAt l q j := by
 obtain ⟨h1, h2, h3, h4, h5⟩ := hok.lie
 have h6 := mod_in (k := k) h1
 have h7 := putAt_length (l := l) (p := B + 16 * N + 4 + 2 * (k % N)) (k := 2) h (by omega)
 rw [offerD, numAt_other _ (by omega) (by omega), numAt_other _ (by omega) (by omega)]
theorem offerD_index {l : List UInt8} {B N : Nat} (k h : Nat) (hok : RingOk l.length B N) : numAt (offerD l B N k h) (B + 16 * N + 2) 2 = (k + 1) % 65536 := by
 obtain ⟨h1, h2, h3, h4, h5⟩ := hok.lie
 have h6 := mod_in (k := k) h1
 have h7 := putAt_length (l := l) (p := B + 16 * N + 4 + 2 * (k % N)) (k := 2) h (by omega)
 rw [offerD, numAt_same _ (by omega)]
theorem offerD_entry {l : List UInt8} {B N : Nat} (k k2 h : Nat) (hk : k2 % N = k % N) (hh : h < 65536) (hok : RingOk l.length B N) : numAt (offerD l B N k h) (B + 16 * N + 4 + 2 * (k2 % N)) 2 = h := by
 obtain ⟨h1, h2, h3, h4, h5⟩ := hok.lie
 have h6 := mod_in (k := k) h1
 have h7 := putAt_length (l := l) (p := B + 16 * N + 4 + 2 * (k % N)) (k := 2) h (by omega)
 rw [hk, offerD, numAt_other _ (by omega) (by omega), numAt_same _ (by omega)]
 exact mod_small hh
theorem returnD_length {l : List UInt8} {B N : Nat} (k a n : Nat) (hok : RingOk l.length B N) : (returnD l B N k a n).length = l.length := by
 obtain ⟨h1, h2, h3, h4, h5⟩ := hok.lie
 have h6 := mod_in (k := k) h1
 have h7 := putAt_length (l := l) (p := B + secN N + 4 + 8 * (k % N)) (k := 4) a (by omega)
 have h8 := putAt_length (l := putAt l (B + secN N + 4 + 8 * (k % N)) 4 a) (p := B + secN N + 4 + 8 * (k % N) + 4) (k := 4) n (by omega)
 rw [returnD, putAt_length _ (by omega), h8, h7]
theorem returnD_index {l : List UInt8} {B N : Nat} (k a n : Nat) (hok : RingOk l.length B N) : numAt (returnD l B N k a n) (B + secN N + 2) 2 = (k + 1) % 65536 := by
 obtain ⟨h1, h2, h3, h4, h5⟩ := hok.lie
 have h6 := mod_in (k := k) h1
 have h7 := putAt_length (l := l) (p := B + secN N + 4 + 8 * (k % N)) (k := 4) a (by omega)
 have h8 := putAt_length (l := putAt l (B + secN N + 4 + 8 * (k % N)) 4 a) (p := B + secN N + 4 + 8 * (k % N) + 4) (k := 4) n (by omega)
 rw [returnD, numAt_same _ (by omega)]
theorem returnD_entry {l : List UInt8} {B N : Nat} (k k2 a n : Nat) (hk : k2 % N = k % N) (ha : a < 4294967296) (hn : n < 4294967296) (hok : RingOk l.length B N) :
 numAt (returnD l B N k a n) (B + secN N + 4 + 8 * (k2 % N)) 4 = a ∧ numAt (returnD l B N k a n) (B + secN N + 4 + 8 * (k2 % N) + 4) 4 = n := by
 obtain ⟨h1, h2, h3, h4, h5⟩ := hok.lie
 have h6 := mod_in (k := k) h1
 have h7 := putAt_length (l := l) (p := B + secN N + 4 + 8 * (k % N)) (k := 4) a (by omega)
 have h8 := putAt_length (l := putAt l (B + secN N + 4 + 8 * (k % N)) 4 a) (p := B + secN N + 4 + 8 * (k % N) + 4) (k := 4) n (by omega)
 rw [hk, returnD]
 refine ⟨?_, ?_⟩
 · rw [numAt_other _ (by omega) (by omega), numAt_other _ (by omega) (by omega), numAt_same _ (by omega)]
   exact mod_small ha
 · rw [numAt_other _ (by omega) (by omega), numAt_same _ (by omega)]
   exact mod_small hn
theorem ringF_ok {l : List UInt8} {B N : Nat} (h : RingOk l.length B N) : ringF l.length (B : Int) (N : Int) = 0 := by rw [ringF, if_pos h.ok]
theorem descF_ok {l : List UInt8} {B N I : Nat} (h : RingOk l.length B N) (hi : I < N) : descF l.length (B : Int) (N : Int) (I : Int) = 0 := by rw [descF, if_pos h.ok, if_pos (by omega)]
theorem descX_ok {l : List UInt8} {B N I : Nat} (h : RingOk l.length B N) (hi : I < N) (o k : Nat) : descX l (B : Int) (N : Int) (I : Int) o k = numAt l (B + 16 * I + o) k := by rw [descX, if_pos (descF_ok h hi), Int.toNat_natCast, Int.toNat_natCast]
theorem setX_ok {l : List UInt8} {B N I : Nat} (h : RingOk l.length B N) (hi : I < N) (a n f x : Nat) : setX l (B : Int) (N : Int) (I : Int) a n f x = setD l (B + 16 * I) a n f x := by rw [setX, if_pos (descF_ok h hi), Int.toNat_natCast, Int.toNat_natCast]
theorem availX_ok {l : List UInt8} {B N : Nat} (h : RingOk l.length B N) : availX l (B : Int) (N : Int) = numAt l (B + 16 * N + 2) 2 := by rw [availX, if_pos (ringF_ok h), Int.toNat_natCast, Int.toNat_natCast]
theorem availAtX_ok {l : List UInt8} {B N : Nat} (h : RingOk l.length B N) (k : Nat) : availAtX l (B : Int) (N : Int) k = numAt l (B + 16 * N + 4 + 2 * (k % N)) 2 := by rw [availAtX, if_pos (ringF_ok h), Int.toNat_natCast, Int.toNat_natCast]
theorem offerX_ok {l : List UInt8} {B N : Nat} (h : RingOk l.length B N) (k : Nat) (z : Int) : offerX l (B : Int) (N : Int) k z = offerD l B N k (z % 65536).toNat := by rw [offerX, if_pos (ringF_ok h), Int.toNat_natCast, Int.toNat_natCast]
theorem usedX_ok {l : List UInt8} {B N : Nat} (h : RingOk l.length B N) : usedX l (B : Int) (N : Int) = numAt l (B + secN N + 2) 2 := by rw [usedX, if_pos (ringF_ok h), Int.toNat_natCast, Int.toNat_natCast]
theorem usedAtX_ok {l : List UInt8} {B N : Nat} (h : RingOk l.length B N) (k o : Nat) : usedAtX l (B : Int) (N : Int) k o = numAt l (B + secN N + 4 + 8 * (k % N) + o) 4 := by rw [usedAtX, if_pos (ringF_ok h), Int.toNat_natCast, Int.toNat_natCast]
theorem returnX_ok {l : List UInt8} {B N : Nat} (h : RingOk l.length B N) (k a n : Nat) : returnX l (B : Int) (N : Int) k a n = returnD l B N k a n := by rw [returnX, if_pos (ringF_ok h), Int.toNat_natCast, Int.toNat_natCast]
theorem returnX_length (l : List UInt8) (b z : Int) (k a n : Nat) : (returnX l b z k a n).length = l.length := by
 rcases ring_cases l.length b z with ⟨_, h1⟩ | ⟨B, N, rfl, rfl, hok, _⟩
 · rw [returnX, if_neg (by rw [h1]; decide)]
 · rw [returnX_ok hok, returnD_length _ _ _ hok]
end Go.Proofs.YtnmekbbnglkmcaaGreat
namespace Go.Proofs.YtnmekbbnglkmcaaGreat
structure QCh where
 head : Int
 ds : List Int
 room : Int
structure QQ where
 base : Int
 size : Int
 free : List Int
 avail : Nat
 last : Nat
 chains : List QCh
def upN (N : Nat) : List Int := (List.range N).map fun (i : Nat) => (i : Int)
theorem upN_length (N : Nat) : (upN N).length = N := by simp [upN]
theorem upN_sorted (N : Nat) : (upN N).Pairwise (· ≤ ·) := by
 unfold upN
 rw [List.pairwise_map]
 exact (List.pairwise_lt_range (n := N)).imp (fun h => by omega)
theorem upN_mem {N : Nat} {d : Int} (h : d ∈ upN N) : 0 ≤ d ∧ d < N := by
 unfold upN at h
 rw [List.mem_map] at h
 obtain ⟨i, hi, rfl⟩ := h
 rw [List.mem_range] at hi
 omega
def flat (L : List QCh) : List Int := L.flatMap (·.ds)
structure GoodQ (q : QQ) (N : Nat) : Prop where
 right : RightN N
 size : q.size = N
 base : 0 ≤ q.base
 sorted : q.free.Pairwise (· ≤ ·)
 perm : (q.free ++ flat q.chains).Perm (upN N)
 chain : ∀ c ∈ q.chains, c.ds ≠ [] ∧ c.head = c.ds.getD 0 0 ∧ 0 ≤ c.room ∧ c.room ≤ 2147483647
 av : q.avail < 65536
 la : q.last < 65536
def leZ (x y : Int) : Bool := decide (x ≤ y)
theorem sort_sorted (l : List Int) : (l.mergeSort fun x y => decide (x ≤ y)).Pairwise (· ≤ ·) := by
 have h := List.pairwise_mergeSort (le := fun x y : Int => decide (x ≤ y)) (fun a b c h1 h2 => by simp at *; omega) (fun a b => by simp; omega) l
 exact h.imp (fun h => by simpa using h)
theorem sort_perm (l : List Int) : (l.mergeSort fun x y => decide (x ≤ y)).Perm l := List.mergeSort_perm l _
theorem sort_eq {l m : List Int} (h : l.Perm m) (hm : m.Pairwise (· ≤ ·)) : (l.mergeSort fun x y => decide (x ≤ y)) = m :=
 List.Perm.eq_of_pairwise (le := (· ≤ ·)) (fun a b _ _ h1 h2 => by omega) (sort_sorted l) hm ((sort_perm l).trans h)
theorem GoodQ.sum {q : QQ} {N : Nat} (h : GoodQ q N) : q.free.length + (flat q.chains).length = N := by
 have := h.perm.length_eq
 simpa [upN_length] using this
theorem flat_length {L : List QCh} (h : ∀ c ∈ L, c.ds ≠ []) : L.length ≤ (flat L).length := by
 induction L with
 | nil => simp
 | cons c r ih =>
   have h1 : 0 < c.ds.length := List.length_pos_iff.2 (h c (by simp))
   have h2 := ih (fun d hd => h d (List.mem_cons_of_mem _ hd))
   have h3 : flat (c :: r) = c.ds ++ flat r := rfl
   rw [h3, List.length_append, List.length_cons]
   omega
theorem ds_length {L : List QCh} {c : QCh} (h : c ∈ L) : c.ds.length ≤ (flat L).length := by
 induction L with
 | nil => cases h
 | cons d r ih =>
   have h3 : flat (d :: r) = d.ds ++ flat r := rfl
   rw [h3, List.length_append]
   rcases List.mem_cons.1 h with rfl | h
   · omega
   · have := ih h
     omega
theorem GoodQ.few {q : QQ} {N : Nat} (h : GoodQ q N) : q.free.length ≤ N ∧ q.chains.length + q.free.length ≤ N ∧ N ≤ 16 ∧ 1 ≤ N ∧ ∀ c ∈ q.chains, c.ds.length ≤ N := by
 have h1 := h.sum
 have h2 := flat_length (L := q.chains) (fun c hc => (h.chain c hc).1)
 have h3 := h.right.le
 exact ⟨by omega, by omega, h3.2, h3.1, fun c hc => by have := ds_length hc; omega⟩
theorem GoodQ.freeIn {q : QQ} {N : Nat} (h : GoodQ q N) {d : Int} (hd : d ∈ q.free) : 0 ≤ d ∧ d < N := upN_mem (h.perm.subset (List.mem_append_left _ hd))
theorem flat_mem {L : List QCh} {c : QCh} {d : Int} (hc : c ∈ L) (hd : d ∈ c.ds) : d ∈ flat L := by
 unfold flat
 exact List.mem_flatMap.2 ⟨c, hc, hd⟩
theorem GoodQ.headIn {q : QQ} {N : Nat} (h : GoodQ q N) {c : QCh} (hc : c ∈ q.chains) : 0 ≤ c.head ∧ c.head < N := by
 obtain ⟨h1, h2, _⟩ := h.chain c hc
 have h3 : c.head ∈ c.ds := by
  rw [h2]
  rcases hd : c.ds with _ | ⟨d, r⟩
  · exact absurd hd h1
  · simp
 exact upN_mem (h.perm.subset (List.mem_append_right _ (flat_mem hc h3)))
def newQ (b : Int) (N : Nat) : QQ := { base := b, size := N, free := upN N, avail := 0, last := 0, chains := [] }
theorem newQ_good {b : Int} {N : Nat} (hN : RightN N) (hb : 0 ≤ b) : GoodQ (newQ b N) N :=
 { right := hN, size := rfl, base := hb, sorted := upN_sorted N, perm := by simp [newQ, flat], chain := fun c hc => (by cases hc), av := by simp [newQ], la := by simp [newQ] }
abbrev QB := Int × Int × Bool
def roomOf : List QB → Int
 | [] => 0
 | b :: r => (if b.2.2 then b.2.1 else 0) + roomOf r
theorem roomOf_take_succ (l : List QB) (k : Nat) (h : k < l.length) : roomOf (l.take (k + 1)) = roomOf (l.take k) + (if (l.getD k (0, 0, false)).2.2 then (l.getD k (0, 0, false)).2.1 else 0) := by
 induction l generalizing k with
 | nil => simp at h
 | cons b r ih =>
   cases k with
   | zero => simp [roomOf]
   | succ k =>
     have h2 := ih k (by simpa using h)
     simp only [List.take_succ_cons, roomOf, List.getD_cons_succ]
     rw [h2]
     omega
theorem roomOf_range {l : List QB} {m : Int} (h : ∀ b ∈ l, 0 ≤ b.2.1 ∧ b.2.1 ≤ m) (hm : 0 ≤ m) : 0 ≤ roomOf l ∧ roomOf l ≤ m * l.length := by
 induction l with
 | nil => simp [roomOf]
 | cons b r ih =>
   have h1 := ih (fun c hc => h c (List.mem_cons_of_mem _ hc))
   have h2 := h b (by simp)
   simp only [roomOf, List.length_cons]
   have h3 : m * ((r.length + 1 : Nat) : Int) = m * r.length + m := by rw [Int.natCast_add, Int.mul_add]; simp
   rw [h3]
   split <;> omega
def addC (q : QQ) (bs : List QB) : QCh := ⟨q.free.getD 0 0, q.free.take bs.length, roomOf bs⟩
def addQ (q : QQ) (bs : List QB) : QQ := { q with free := q.free.drop bs.length, avail := (q.avail + 1) % 65536, chains := q.chains ++ [addC q bs] }
theorem flat_append (L M : List QCh) : flat (L ++ M) = flat L ++ flat M := by simp [flat]
theorem addQ_good {q : QQ} {N : Nat} {bs : List QB} (h : GoodQ q N) (h1 : 1 ≤ bs.length) (h2 : bs.length ≤ q.free.length) (h3 : 0 ≤ roomOf bs ∧ roomOf bs ≤ 2147483647) : GoodQ (addQ q bs) N where
 right := h.right
 size := h.size
 base := h.base
 sorted := List.Pairwise.sublist (List.drop_sublist _ _) h.sorted
 perm := by
  refine List.Perm.trans ?_ h.perm
  show (q.free.drop bs.length ++ flat (q.chains ++ [addC q bs])).Perm (q.free ++ flat q.chains)
  rw [flat_append, show flat [addC q bs] = q.free.take bs.length by simp [flat, addC]]
  have e1 : (q.free ++ flat q.chains) = q.free.take bs.length ++ (q.free.drop bs.length ++ flat q.chains) := by rw [← List.append_assoc, List.take_append_drop]
  rw [e1, ← List.append_assoc]
  exact List.perm_append_comm
 chain := fun c hc => by
  rcases List.mem_append.1 hc with hc | hc
  · exact h.chain c hc
  · rw [List.mem_singleton] at hc
    subst hc
    have hne : q.free ≠ [] := by intro e; rw [e, List.length_nil] at h2; omega
    have hb : bs ≠ [] := by intro e; rw [e, List.length_nil] at h1; omega
    refine ⟨by simp [addC, hne, hb], ?_, h3⟩
    simp only [addC]
    rcases hq : q.free with _ | ⟨d, r⟩
    · exact absurd hq hne
    · rcases hk : bs.length with _ | k
      · omega
      · simp
 av := by simp only [addQ]; omega
 la := h.la
def relF (q : QQ) (i : Nat) : List Int := (q.free ++ ((q.chains[i]?).map (·.ds)).getD []).mergeSort fun x y => decide (x ≤ y)
def relQ (q : QQ) (i : Nat) : QQ := { q with free := relF q i, chains := q.chains.eraseIdx i }
theorem flat_erase {L : List QCh} {i : Nat} (h : i < L.length) : (flat L).Perm (((L[i]?).map (·.ds)).getD [] ++ flat (L.eraseIdx i)) := by
 induction L generalizing i with
 | nil => simp at h
 | cons c r ih =>
   cases i with
   | zero => exact List.Perm.refl _
   | succ i =>
     have h1 := ih (i := i) (by simpa using h)
     have e1 : flat (c :: r) = c.ds ++ flat r := rfl
     have e2 : flat ((c :: r).eraseIdx (i + 1)) = c.ds ++ flat (r.eraseIdx i) := rfl
     rw [e1, e2, List.getElem?_cons_succ]
     refine (List.Perm.append_left c.ds h1).trans ?_
     rw [← List.append_assoc, ← List.append_assoc]
     exact List.Perm.append_right _ List.perm_append_comm
theorem relQ_good {q : QQ} {N i : Nat} (h : GoodQ q N) (hi : i < q.chains.length) : GoodQ (relQ q i) N where
 right := h.right
 size := h.size
 base := h.base
 sorted := sort_sorted _
 perm := by
  refine List.Perm.trans ?_ h.perm
  show (relF q i ++ flat (q.chains.eraseIdx i)).Perm (q.free ++ flat q.chains)
  refine (List.Perm.append_right _ (sort_perm _)).trans ?_
  rw [List.append_assoc]
  exact List.Perm.append_left _ (flat_erase hi).symm
 chain := fun c hc => h.chain c (List.mem_of_mem_eraseIdx hc)
 av := h.av
 la := h.la
theorem GoodQ.seen {q : QQ} {N : Nat} (h : GoodQ q N) {t : Nat} (ht : t < 65536) : GoodQ { q with last := t } N :=
 { right := h.right, size := h.size, base := h.base, sorted := h.sorted, perm := h.perm, chain := h.chain, av := h.av, la := ht }
def isUsed (a n : Nat) (c : QCh) : Bool := decide ((a : Int) = c.head ∧ (n : Int) ≤ c.room)
end Go.Proofs.YtnmekbbnglkmcaaGreat
namespace Go.Proofs.YtnmekbbnglkmcaaGreat
open Go.RowKit Go.Lib
theorem info8 : (Tryz.prog.info? 5).map (fun i => (i.zero, i.size, i.bytes)) = some (some (.int .u8 0), 1, 1) := by kernel_rfl
theorem below_drewN {B : Nat} {a w : World} (h : Below B a w) (n : Nat) : Below B a (w.drewN n) := h.trans ⟨rfl, rfl, rfl, Nat.le_refl _, fun _ _ => rfl⟩
theorem elemBytes : Tryz.prog.underlying 24 = some (.slice (Tryz.prog.elem 24)) := by kernel_rfl
theorem sizeByte (W : World) : (sizeOf (Tryz.prog.elem 24)).run Tryz.prog W = .ok 1 W := by kernel_rfl
theorem slice_to (a : Option Addr) (n c h : Nat) (hh : h ≤ c) (W : World) :
 (Instr.slice 24 (.slice a n c) none (some (.int .i64 h)) none).run Tryz.prog W = .ok (.slice a h c) W := by
 rw [run_slice_h (P := Tryz.prog) W 24 a n c elemBytes .i64 h (by omega) (by omega), sizeByte]
 simp only [Result.andThen, sliced, Int.toNat_natCast, Nat.sub_zero, Nat.zero_mul]
 congr 2
 split
 · rfl
 · cases a with
   | none => rfl
   | some a => simp only [Option.map_some]; congr 1
theorem IsBytes.shape {w : World} {v : Value} {l : List UInt8} (h : IsBytes w v l) : ∃ a c, v = .slice a l.length c := by
 rcases h with ⟨a, c, rfl, rfl⟩ | ⟨b, off, cap, rfl, _⟩
 · exact ⟨a, c, rfl⟩
 · exact ⟨_, _, rfl⟩
def IsArg (w : World) (v : Value) (l : List UInt8) : Prop :=
 IsBytes w v l ∧ ((v = .slice none 0 0 ∧ l = []) ∨ ∃ ad c, v = .slice (some ad) l.length c ∧ ∀ j u, (byteCells l)[j]? = some u → w.cell? (ad.add j) = some u)
theorem isArg_nil (w : World) : IsArg w (.slice none 0 0) [] := ⟨.inl ⟨none, 0, rfl, rfl⟩, .inl ⟨rfl, rfl⟩⟩
theorem isArg_of_ints {w : World} {x : Addr} {len cap : Nat} {zs : List Int} (hl : len ≤ cap) (hm : cap ≤ maxLen) (hz : zs.length = cap)
 (hc : ∀ i, i < zs.length → w.cell? (x.add i) = some (.int .u8 (zs.getD i 0))) (hw : ∀ n ∈ zs, (Lit.int .u8 n).wf = true) :
 IsArg w (.slice (some x) len cap) ((zs.take len).map fun z => UInt8.ofNat z.toNat) := by
 have hlen : ((zs.take len).map fun z => UInt8.ofNat z.toNat).length = len := by simp; omega
 refine ⟨isBytes_of_ints hl hm hz hc hw, .inr ⟨x, cap, by rw [hlen], fun j u hu => ?_⟩⟩
 have hj : j < len := by
  have := (List.getElem?_eq_some_iff.1 hu).1
  rw [byteCells_length, hlen] at this
  exact this
 rw [hc j (by omega), ← hu]
 have hz2 : j < zs.length := by omega
 have hb := bounds_u8 (hw zs[j] (List.getElem_mem hz2))
 simp only [byteCells, List.getD_eq_getElem?_getD, List.getElem?_map, List.getElem?_take, if_pos hj, List.getElem?_eq_getElem hz2, Option.map_some, Option.getD_some]
 congr 2
 rw [UInt8.toNat_ofNat']
 omega
theorem wpList_append_isArg {P : Program} (w : World) {ops : Array Oper} {rest : List Oper} {o : Oper} {a : Act} {Q : Exit → Act → World → Prop} (hgd : o.guard = none) (s x : Operand) (t : TypeId)
 (ho : o.op = .call { callee := .builtin .append, args := #[s, x], argTypes := #[t, t] })
 (base : Nat) (e : TypeId) (i : TypeInfo) (z : Value) (ht : P.underlying t = some (.slice e)) (hi : P.info? e = some i) (hz : i.zero = some z)
 (hsize : i.size = 1) (hby : i.bytes = 1) (hzs : z.cells.size = 1)
 (v : Value) (n : Nat) (xs : List Value) (hs : a.eval s = v) (hown : w.ownsRow base e 1 v n xs)
 (V : Value) (l : List UInt8) (hx : a.eval x = V) (hV : (V = .slice none 0 0 ∧ l = []) ∨ ∃ ad c, V = .slice (some ad) l.length c ∧ ∀ j u, (byteCells l)[j]? = some u → w.cell? (ad.add j) = some u)
 (h63 : n + l.length ≤ 140737488355328) (hbase : base ≤ w.heap.size)
 (h : ∀ v' w', w'.ownsRow base e 1 v' (n + l.length) (xs ++ byteCells l) → w.grownBy w' v.ownBlock → wpList P ops Q rest (a.put o.dst v') w') : wpList P ops Q (o :: rest) a w := by
 rcases hV with ⟨rfl, rfl⟩ | ⟨ad, c, rfl, hnews⟩
 · refine wpList_append_own_none hgd s x t ho base e i 1 ht hi v n xs hs hown hx ?_
   exact h v w (by simpa [byteCells] using hown) (World.grownBy.refl w _)
 · exact wpList_append_own w hgd s x t ho base e i z 1 1 ht hi hz hsize hby hzs (by decide) v n xs hs hown ad l.length c (byteCells l) hx (by simp [byteCells]) hnews (byteCells_one l)
    (by unfold maxLen; omega) (by omega) hbase (fun v' w' h1 h2 _ => h v' w' h1 h2)
theorem ownsRow_below {w w' : World} {base : Nat} {t : TypeId} {size : Nat} {v : Value} {n : Nat} {xs : List Value} (h : w.ownsRow base t size v n xs) (hb : Below w.heap.size w w') : w'.ownsRow base t size v n xs := by
 refine ⟨h.1, ?_⟩
 rcases h.2 with h2 | ⟨g, cap, cur, hv, hg, hh, r⟩
 · exact .inl h2
 · exact .inr ⟨g, cap, cur, hv, hg, by rw [hb.block g (Array.getElem?_eq_some_iff.1 hh).1]; exact hh, r⟩
end Go.Proofs.YtnmekbbnglkmcaaGreat
namespace Go.Proofs.YtnmekbbnglkmcaaGreat
open Go.RowKit Go.Lib
theorem IsArg.below {w w' : World} {v : Value} {l : List UInt8} (h : IsArg w v l) (hb : Below w.heap.size w w') : IsArg w' v l :=
 ⟨h.1.below hb, by
  rcases h.2 with h | ⟨ad, c, h1, h2⟩
  · exact .inl h
  · exact .inr ⟨ad, c, h1, fun i u hu => by
     have h3 := h2 i u hu
     rw [hb.cell (World.block_lt_of_cell? w _ h3)]; exact h3⟩⟩
theorem isArg_of_owns {w : World} {base : Nat} {t : TypeId} {v : Value} {l : List UInt8} (h : w.ownsRow base t 1 v l.length (byteCells l)) : IsArg w v l := by
 refine ⟨isBytes_of_owns h, ?_⟩
 rcases h.2 with ⟨rfl, h0⟩ | ⟨g, cap, cur, rfl, _⟩
 · exact .inl ⟨rfl, List.length_eq_zero_iff.1 h0⟩
 · exact .inr ⟨⟨g, 0, none⟩, cap, rfl, fun j u hu => World.ownsRow.cells h rfl j u hu⟩
theorem IsBytes.front {w : World} {a : Option Addr} {l : List UInt8} {N c : Nat} (h : IsBytes w (.slice a N c) l) (n : Nat) (hn : n ≤ l.length) : IsBytes w (.slice a n c) (l.take n) := by
 rcases h with ⟨a0, c0, h1, h2⟩ | ⟨b, off, cap, h1, h2, h3, h4, h5⟩
 · subst h2
   have : n = 0 := by simpa using hn
   subst this
   exact .inl ⟨_, _, rfl, by simp⟩
 · cases h1
   have hl : (l.take n).length = n := by simp; omega
   refine .inr ⟨b, off, c, by rw [hl], by omega, h3, h4, fun i hi => ?_⟩
   rw [hl] at hi
   rw [h5 i (by omega)]
   simp [hi]
theorem IsArg.ahead {w : World} {a : Option Addr} {l : List UInt8} {N c : Nat} (h : IsArg w (.slice a N c) l) (n : Nat) (hn : n ≤ l.length) : IsArg w (.slice a n c) (l.take n) := by
 refine ⟨h.1.front n hn, ?_⟩
 rcases h.2 with ⟨h1, h2⟩ | ⟨ad, c0, h1, h2⟩
 · subst h2
   have : n = 0 := by simpa using hn
   subst this
   cases h1
   exact .inl ⟨rfl, by simp⟩
 · cases h1
   have hl : (l.take n).length = n := by simp; omega
   refine .inr ⟨ad, c, by rw [hl], fun j u hu => ?_⟩
   have hj : j < (l.take n).length := by have := (List.getElem?_eq_some_iff.1 hu).1; rwa [byteCells_length] at this
   refine h2 j u ?_
   rw [← hu]
   rw [hl] at hj
   simp [byteCells, hj]
theorem IsBytes.cap {w : World} {a : Option Addr} {l : List UInt8} {N c : Nat} (h : IsBytes w (.slice a N c) l) (h0 : l ≠ []) : l.length ≤ c ∧ c ≤ maxLen := by
 rcases h with ⟨_, _, _, h2⟩ | ⟨b, off, cap, h1, h2, h3, _⟩
 · exact absurd h2 h0
 · cases h1; exact ⟨h2, h3⟩
def Clamped (z : Int) (k : Nat) : Prop := (z < 0 ∧ k = 0) ∨ (0 ≤ z ∧ z ≤ 8 ∧ z = (k : Int)) ∨ (8 < z ∧ k = 8)
theorem clamped_of (k : Nat) (h : k ≤ 8) : Clamped (k : Int) k := .inr (.inl ⟨by omega, by omega, rfl⟩)
theorem clamped_max {z : Int} {k : Nat} (hz : Clamped z k) : k ≤ maxLen := by
 have : k ≤ 8 := by rcases hz with h | h | h <;> omega
 unfold maxLen; omega
end Go.Proofs.YtnmekbbnglkmcaaGreat
namespace Go.Proofs.YtnmekbbnglkmcaaGreat
open Go.RowKit Go.Lib
theorem owns_empty {w : World} {g cap : Nat} {cur : Array Value} {t : TypeId} {size : Nat} (hg : w.heap[g]? = some (.cells cur t (0, 0))) (hc : cap ≤ maxLen) (hs : cur.size = cap * size) (base : Nat) (hb : base ≤ g) :
 w.ownsRow base t size (.slice (some ⟨g, 0, none⟩) 0 cap) 0 [] :=
 ⟨by simp, .inr ⟨g, cap, cur, rfl, hb, hg, Nat.zero_le _, hc, hs, by simp⟩⟩
theorem owns_keep {w w' : World} {B : Nat} {e : TypeId} {s : Nat} {v : Value} {n : Nat} {xs : List Value} (h : w.ownsRow B e s v n xs)
 (hk : ∀ (k : Nat) (cur : Array Value), v.ownBlock = some k → w.heap[k]? = some (.cells cur e (0, 0)) → w'.heap[k]? = some (.cells cur e (0, 0))) : w'.ownsRow B e s v n xs := by
 refine ⟨h.1, ?_⟩
 rcases h.2 with hn | ⟨g, cap, cur, rfl, hb, hg, rest⟩
 · exact .inl hn
 · exact .inr ⟨g, cap, cur, rfl, hb, hk g cur rfl hg, rest⟩
theorem owns_shape {w : World} {B : Nat} {e : TypeId} {s : Nat} {v : Value} {n : Nat} {xs : List Value} (h : w.ownsRow B e s v n xs) (hn : 0 < n) : ∃ g cap cur, v = .slice (some ⟨g, 0, none⟩) n cap ∧ B ≤ g ∧ w.heap[g]? = some (.cells cur e (0, 0)) ∧ n ≤ cap ∧ cap ≤ maxLen := by
 rcases h.2 with ⟨_, h0⟩ | ⟨g, cap, cur, hv, hb, hh, h1, h2, _⟩
 · omega
 · exact ⟨g, cap, cur, hv, hb, hh, h1, h2⟩
end Go.Proofs.YtnmekbbnglkmcaaGreat
namespace Go.Proofs.YtnmekbbnglkmcaaGreat
open Go.RowKit Go.Lib
set_option maxHeartbeats 400000 in
theorem between_any (a b c : Int) (r : Bool) (hr : r = decide (a ≤ b ∧ b ≤ c)) (w : World) :
 Calls Tryz.prog 83 #[.int .i64 a, .int .i64 b, .int .i64 c] w fun e w' => e = .returned (.bool r) ∧ w' = w := by
 by_cases h1 : a ≤ b
 · by_cases h2 : b ≤ c
   · obtain rfl : r = true := by rw [hr]; exact decide_eq_true ⟨h1, h2⟩
     clear hr
     go_enter Tryz.func83, Tryz.ntmps83
     go_wp2
     go_ret
     exact ⟨rfl, rfl⟩
   · obtain rfl : r = false := by rw [hr]; exact decide_eq_false (fun h => h2 h.2)
     clear hr
     go_enter Tryz.func83, Tryz.ntmps83
     go_wp2
     go_ret
     exact ⟨rfl, rfl⟩
 · obtain rfl : r = false := by rw [hr]; exact decide_eq_false (fun h => h1 h.1)
   clear hr
   go_enter Tryz.func83, Tryz.ntmps83
   go_wp2
   go_ret
   exact ⟨rfl, rfl⟩
set_option maxHeartbeats 400000 in
theorem check_any (a : Option Addr) (n c : Nat) (hn : n ≤ maxLen) (r : Bool) (hr : r = decide (n ≤ 8192)) (w : World) :
 Calls Tryz.prog 47 #[.agg #[.slice a n c]] w fun e w' => e = .returned (.bool r) ∧ Below w.heap.size w w' := by
 unfold maxLen at hn
 have hb : r = decide ((0 : Int) ≤ n ∧ (n : Int) ≤ 8192) := by
  rw [hr]
  by_cases h : n ≤ 8192
  · rw [decide_eq_true h, decide_eq_true]; omega
  · rw [decide_eq_false h, decide_eq_false]; omega
 have HB := Lib.hid hb
 clear hb hr
 go_enter Tryz.func47, Tryz.ntmps47
 go_wp2_with (go_at_call 83; refine (between_any _ _ _ r HB.out _).mono ?_; rintro e w' ⟨rfl, rfl⟩)
 go_ret
 exact ⟨rfl, (Below.refl _ _).alloc (Nat.le_refl _) _⟩
set_option maxHeartbeats 400000 in
theorem refCheck_any (a : Option Addr) (n c : Nat) (hn : n ≤ maxLen) (r : Bool) (hr : r = decide (n ≤ 8192)) (w : World) :
 Calls Tryz.prog 69 #[.agg #[.slice a n c]] w fun e w' => e = .returned (.bool r) ∧ Below w.heap.size w w' := by
 unfold maxLen at hn
 have hb : decide ((n : Int) ≤ 8192) = r := by
  rw [hr]
  by_cases h : n ≤ 8192
  · rw [decide_eq_true h, decide_eq_true]; omega
  · rw [decide_eq_false h, decide_eq_false]; omega
 have HB := Lib.hid hb
 clear hb hr
 go_enter Tryz.func69, Tryz.ntmps69
 go_wp2
 go_ret
 refine ⟨?_, (Below.refl _ _).alloc (Nat.le_refl _) _⟩
 show Ending.returned (.bool (decide ((n : Int) ≤ 8192))) = _
 rw [HB.out]
theorem box_cell {w w' : World} {v : Value} {t : TypeId} {fr : Nat × Nat} (h : Below (w.alloc (.cells #[v] t fr)).heap.size (w.alloc (.cells #[v] t fr)) w') : w'.cell? ⟨w.heap.size, 0, none⟩ = some v := by
 rw [h.cell (by simp)]
 have h1 := heap_alloc_new w (.cells #[v] t fr)
 unfold World.cell?
 rw [h1]
 rfl
set_option maxHeartbeats 1000000 in
theorem fault_any (a : Option Addr) (n c : Nat) (hn : n ≤ maxLen) (x y : Int) (w : World) :
 Calls Tryz.prog 50 #[.agg #[.slice a n c], .int .i64 x, .int .i64 y] w fun e w' => e = .returned (.int .i64 (faultOf n x y)) ∧ Below w.heap.size w w' := by
 have hn1 := hn
 unfold maxLen at hn1
 have HN := Lib.hid hn
 clear hn
 rcases fault_cases n x y with ⟨hf, h1⟩ | ⟨hf, h1, h2⟩ | ⟨hf, h1, h2, h3, h4, h5⟩
 · rw [hf]
   have HC := Lib.hid (show false = decide (n ≤ 8192) from (decide_eq_false (by omega)).symm)
   clear hf
   go_enter Tryz.func50, Tryz.ntmps50
   go_wp2_with (go_at_call 47; refine (check_any _ _ _ HN.out _ HC.out _).mono ?_; rintro e w1 ⟨rfl, hb⟩)
   go_ret
   exact ⟨rfl, ((Below.refl _ _).alloc (Nat.le_refl _) _).trans (hb.mono (by simp))⟩
 · rw [hf]
   have HC := Lib.hid (show true = decide (n ≤ 8192) from (decide_eq_true h1).symm)
   clear hf
   by_cases h3 : 0 ≤ x ∧ x ≤ n
   · have HB := Lib.hid (show true = decide (0 ≤ x ∧ x ≤ (n : Int)) from (decide_eq_true h3).symm)
     have HB2 := Lib.hid (show false = decide (0 ≤ y ∧ y ≤ (n : Int) - x) from (decide_eq_false (by omega)).symm)
     obtain ⟨h4, h5⟩ := h3
     clear h2
     go_enter Tryz.func50, Tryz.ntmps50
     go_wp2_with fail
     refine (check_any _ _ _ HN.out _ HC.out _).mono ?_
     rintro e w1 ⟨rfl, hb⟩
     have hcl := box_cell hb
     go_wp2_with fail
     refine (between_any _ _ _ _ HB.out _).mono ?_
     rintro e w2 ⟨rfl, rfl⟩
     go_wp2_with fail
     refine (between_any _ _ _ _ HB2.out _).mono ?_
     rintro e w3 ⟨rfl, rfl⟩
     go_wp2
     go_ret
     exact ⟨rfl, ((Below.refl _ _).alloc (Nat.le_refl _) _).trans (hb.mono (by simp))⟩
   · have HB := Lib.hid (show false = decide (0 ≤ x ∧ x ≤ (n : Int)) from (decide_eq_false h3).symm)
     clear h2 h3
     go_enter Tryz.func50, Tryz.ntmps50
     go_wp2_with fail
     refine (check_any _ _ _ HN.out _ HC.out _).mono ?_
     rintro e w1 ⟨rfl, hb⟩
     have hcl := box_cell hb
     go_wp2_with fail
     refine (between_any _ _ _ _ HB.out _).mono ?_
     rintro e w2 ⟨rfl, rfl⟩
     go_wp2
     go_ret
     exact ⟨rfl, ((Below.refl _ _).alloc (Nat.le_refl _) _).trans (hb.mono (by simp))⟩
 · rw [hf]
   have HC := Lib.hid (show true = decide (n ≤ 8192) from (decide_eq_true h1).symm)
   have HB := Lib.hid (show true = decide (0 ≤ x ∧ x ≤ (n : Int)) from (decide_eq_true ⟨h2, h3⟩).symm)
   have HB2 := Lib.hid (show true = decide (0 ≤ y ∧ y ≤ (n : Int) - x) from (decide_eq_true ⟨h4, h5⟩).symm)
   clear hf
   go_enter Tryz.func50, Tryz.ntmps50
   go_wp2_with fail
   refine (check_any _ _ _ HN.out _ HC.out _).mono ?_
   rintro e w1 ⟨rfl, hb⟩
   have hcl := box_cell hb
   go_wp2_with fail
   refine (between_any _ _ _ _ HB.out _).mono ?_
   rintro e w2 ⟨rfl, rfl⟩
   go_wp2_with fail
   refine (between_any _ _ _ _ HB2.out _).mono ?_
   rintro e w3 ⟨rfl, rfl⟩
   go_wp2
   go_ret
   exact ⟨rfl, ((Below.refl _ _).alloc (Nat.le_refl _) _).trans (hb.mono (by simp))⟩
set_option maxHeartbeats 1000000 in
theorem sizeFault_any (a : Option Addr) (n c : Nat) (hn : n ≤ maxLen) (y : Int) (w : World) :
 Calls Tryz.prog 108 #[.agg #[.slice a n c], .int .i64 y] w fun e w' => e = .returned (.int .i64 (sizeFaultOf n y)) ∧ Below w.heap.size w w' := by
 have HN := Lib.hid hn
 clear hn
 rcases size_cases n y with ⟨hf, h1⟩ | ⟨hf, h1, h2⟩ | ⟨hf, h1, h2⟩
 · rw [hf]
   have HC := Lib.hid (show false = decide (n ≤ 8192) from (decide_eq_false (by omega)).symm)
   clear hf
   go_enter Tryz.func108, Tryz.ntmps108
   go_wp2_with (go_at_call 47; refine (check_any _ _ _ HN.out _ HC.out _).mono ?_; rintro e w1 ⟨rfl, hb⟩)
   go_ret
   exact ⟨rfl, ((Below.refl _ _).alloc (Nat.le_refl _) _).trans (hb.mono (by simp))⟩
 · rw [hf]
   have HC := Lib.hid (show true = decide (n ≤ 8192) from (decide_eq_true h1).symm)
   have HB := Lib.hid (show false = decide (1 ≤ y ∧ y ≤ 8) from (decide_eq_false h2).symm)
   clear hf h2
   go_enter Tryz.func108, Tryz.ntmps108
   go_wp2_with fail
   refine (check_any _ _ _ HN.out _ HC.out _).mono ?_
   rintro e w1 ⟨rfl, hb⟩
   go_wp2_with fail
   refine (between_any _ _ _ _ HB.out _).mono ?_
   rintro e w2 ⟨rfl, rfl⟩
   go_wp2
   go_ret
   exact ⟨rfl, ((Below.refl _ _).alloc (Nat.le_refl _) _).trans (hb.mono (by simp))⟩
 · rw [hf]
   have HC := Lib.hid (show true = decide (n ≤ 8192) from (decide_eq_true h1).symm)
   have HB := Lib.hid (show true = decide (1 ≤ y ∧ y ≤ 8) from (decide_eq_true h2).symm)
   clear hf h2
   go_enter Tryz.func108, Tryz.ntmps108
   go_wp2_with fail
   refine (check_any _ _ _ HN.out _ HC.out _).mono ?_
   rintro e w1 ⟨rfl, hb⟩
   go_wp2_with fail
   refine (between_any _ _ _ _ HB.out _).mono ?_
   rintro e w2 ⟨rfl, rfl⟩
   go_wp2
   go_ret
   exact ⟨rfl, ((Below.refl _ _).alloc (Nat.le_refl _) _).trans (hb.mono (by simp))⟩
set_option maxHeartbeats 2000000 in
theorem inside_any (a : Option Addr) (n c : Nat) (hn : n ≤ 8192) (x y : Int) (hy0 : -9223372036854775808 ≤ y ∧ y ≤ 9223372036854775807) (r : Bool) (hr : r = decide (faultOf n x y = 0)) (w : World) :
 Calls Tryz.prog 71 #[.agg #[.slice a n c], .int .i64 x, .int .i64 y] w fun e w' => e = .returned (.bool r) ∧ Below w.heap.size w w' := by
 have h : r = decide (0 ≤ x ∧ 0 ≤ y ∧ y ≤ (n : Int) ∧ x ≤ (n : Int) - y) := by
  rw [hr]
  rcases fault_cases n x y with ⟨hf, h1⟩ | ⟨hf, h1, h2⟩ | ⟨hf, h1, h2⟩
  · omega
  · rw [hf, decide_eq_false (by decide), decide_eq_false (by omega)]
  · rw [hf, decide_eq_true rfl, decide_eq_true (by omega)]
 clear hr
 by_cases h1 : 0 ≤ x
 · by_cases h2 : 0 ≤ y
   · by_cases h3 : y ≤ (n : Int)
     · by_cases h4 : x ≤ (n : Int) - y
       · obtain rfl : r = true := by rw [h]; exact decide_eq_true ⟨h1, h2, h3, h4⟩
         clear h
         go_enter Tryz.func71, Tryz.ntmps71
         go_wp2
         go_ret
         exact ⟨rfl, (Below.refl _ _).alloc (Nat.le_refl _) _⟩
       · obtain rfl : r = false := by rw [h]; exact decide_eq_false (fun hh => h4 hh.2.2.2)
         clear h
         go_enter Tryz.func71, Tryz.ntmps71
         go_wp2
         go_ret
         exact ⟨rfl, (Below.refl _ _).alloc (Nat.le_refl _) _⟩
     · obtain rfl : r = false := by rw [h]; exact decide_eq_false (fun hh => h3 hh.2.2.1)
       clear h
       go_enter Tryz.func71, Tryz.ntmps71
       go_wp2
       go_ret
       exact ⟨rfl, (Below.refl _ _).alloc (Nat.le_refl _) _⟩
   · obtain rfl : r = false := by rw [h]; exact decide_eq_false (fun hh => h2 hh.2.1)
     clear h
     go_enter Tryz.func71, Tryz.ntmps71
     go_wp2
     go_ret
     exact ⟨rfl, (Below.refl _ _).alloc (Nat.le_refl _) _⟩
 · obtain rfl : r = false := by rw [h]; exact decide_eq_false (fun hh => h1 hh.1)
   clear h
   go_enter Tryz.func71, Tryz.ntmps71
   go_wp2
   go_ret
   exact ⟨rfl, (Below.refl _ _).alloc (Nat.le_refl _) _⟩
end Go.Proofs.YtnmekbbnglkmcaaGreat
namespace Go.Proofs.YtnmekbbnglkmcaaGreat
open Go.RowKit Go.Lib
theorem ownsRow_empty {w : World} {g cap : Nat} {cur : Array Value} {t : TypeId} (hg : w.heap[g]? = some (.cells cur t (0, 0))) (hc : cap ≤ maxLen) (hs : cur.size = cap * 1) (base : Nat) (hb : base ≤ g) :
 w.ownsRow base t 1 (.slice (some ⟨g, 0, none⟩) 0 cap) 0 [] :=
 ⟨rfl, .inr ⟨g, cap, cur, rfl, hb, hg, Nat.zero_le _, hc, hs, rfl⟩⟩
set_option maxHeartbeats 1000000 in
set_option maxRecDepth 100000 in
theorem grow_nil (n : Nat) (hn : n ≤ 140737488355328) (w : World) :
 Calls Tryz.prog 84 #[.slice none 0 0, .int .i64 n] w fun e w' => ∃ v, e = .returned v ∧ w'.ownsRow w.heap.size 5 1 v 0 [] ∧ Below w.heap.size w w' := by
 by_cases h0 : n = 0
 · subst h0
   go_enter Tryz.func84, Tryz.ntmps84
   go_wp2
   go_ret
   exact ⟨_, rfl, World.ownsRow_nil w w.heap.size 5 1, Below.refl _ _⟩
 · have hpos : 0 < n := by omega
   obtain ⟨i0, hi, hz0, hz1, hz2⟩ := info_parts info8
   have hr := fun (W : World) => run_append_nil_zeros (P := Tryz.prog) W 24 3 24 5 i0 (.int .u8 0) .i64 .i64 Tryz.underlying24 Tryz.underlying3 hi hz0 n hpos (by omega) (by omega) (by rw [hz2]; omega)
   have HR := Lib.hid hr
   have hn2 : ((n : Int) - 0 > 0) := by omega
   clear h0 hr
   have hs1 := slice_to none 0 0 0 (Nat.le_refl _)
   go_enter Tryz.func84, Tryz.ntmps84
   go_wp2_with (at_builtin; refine Lib.wpList_append_run _ rfl _ _ _ _ rfl _ _ rfl rfl _ _ (HR.out _) ?_)
   have hs2 := slice_to (some ⟨w.heap.size, 0, none⟩) n (grownCap w n 0 5) 0 (Nat.zero_le _)
   go_wp2
   go_ret
   refine ⟨_, rfl, ownsRow_empty (heap_alloc_new w.drew _) (grownCap_le_maxLen _ _ _ _ (by unfold maxLen; omega)) ?_ _ (Nat.le_refl _), ((Below.refl _ _).drew).alloc (Nat.le_refl _) _⟩
   have hg := grownCap_ge w n 0 5
   simp [size_zeroCells]
   omega
def joined (ps : List (Value × List UInt8)) (k : Nat) : List UInt8 := ((ps.take k).map Prod.snd).flatten
theorem joined_succ (ps : List (Value × List UInt8)) (k : Nat) (h : k < ps.length) : joined ps (k + 1) = joined ps k ++ ps[k].2 := by
 unfold joined
 rw [List.take_succ_eq_append_getElem h, List.map_append, List.flatten_append]
 simp only [List.map_cons, List.map_nil, List.flatten_cons, List.flatten_nil, List.append_nil]
theorem joined_le (ps : List (Value × List UInt8)) (k : Nat) : (joined ps k).length ≤ (joined ps ps.length).length := by
 unfold joined
 rw [List.take_length]
 have h : ((ps.take k ++ ps.drop k).map Prod.snd).flatten = ((ps.take k).map Prod.snd).flatten ++ ((ps.drop k).map Prod.snd).flatten := by rw [List.map_append, List.flatten_append]
 rw [List.take_append_drop] at h
 rw [h, List.length_append]
 omega
theorem joined_zero (ps : List (Value × List UInt8)) : joined ps 0 = [] := by simp [joined]
set_option maxHeartbeats 2000000 in
set_option maxRecDepth 100000 in
theorem concat_any (g n : Nat) (ps : List (Value × List UInt8)) (hn : ps.length = n) (hnm : n ≤ 1000000) (w : World)
 (hcells : ∀ j, (h : j < ps.length) → w.cell? ⟨g, j, none⟩ = some ps[j].1 ∧ IsArg w ps[j].1 ps[j].2) (hlen : (joined ps ps.length).length ≤ 140737488355328) :
 Calls Tryz.prog 53 #[.slice (some ⟨g, 0, none⟩) n n] w fun e w' => ∃ v, e = .returned v ∧ w'.ownsRow w.heap.size 5 1 v (joined ps ps.length).length (byteCells (joined ps ps.length)) ∧ Below w.heap.size w w' := by
 obtain ⟨i0, hi, hz0, hz1, hz2⟩ := info_parts info8
 obtain ⟨S, hS⟩ : ∃ S, S = joined ps ps.length := ⟨_, rfl⟩
 rw [← hS] at hlen
 rw [← hS]
 have hle : ∀ k, (joined ps k).length ≤ S.length := fun k => by rw [hS]; exact joined_le ps k
 have HLE := Lib.hid hle
 have HC := Lib.hid hcells
 have HN := Lib.hid hn
 have HS := Lib.hid hS
 clear hcells hle hn hS
 go_enter Tryz.func53, Tryz.ntmps53
 go_wp2
 go_loop [3, 11] (fun x c => ∃ k : Nat, k ≤ n ∧ c = .int .i64 k ∧ x = .int .i64 ((joined ps k).length : Nat)) (fun _ c => n - (intOf c).toNat)
 case atStart => exact ⟨0, Nat.zero_le _, rfl, rfl⟩
 case round =>
  obtain ⟨k, hk, rfl, rfl⟩ := hrel
  have hjl := HLE.out k
  obtain ⟨m, hm⟩ : ∃ m, m = (joined ps k).length := ⟨_, rfl⟩
  rw [← hm] at hjl
  rw [← hm]
  by_cases hlt : k < n
  · have hkp : k < ps.length := by rw [HN.out]; exact hlt
    obtain ⟨hcl, harg⟩ := HC.out k hkp
    obtain ⟨a, c, hsh⟩ := harg.1.shape
    rw [hsh] at hcl
    have hjs := joined_succ ps k hkp
    obtain ⟨q, hq⟩ : ∃ q, q = ps[k].2.length := ⟨_, rfl⟩
    rw [← hq] at hcl
    have hj2 := HLE.out (k + 1)
    have hj3 : (joined ps (k + 1)).length = m + q := by rw [hjs, List.length_append, ← hm, ← hq]
    rw [hj3] at hj2
    have HJ := Lib.hid hj3
    clear hm hjs hq hsh harg hj3
    go_wp2
    go_round
    case rel => exact ⟨k + 1, by omega, by go_num, by rw [HJ.out]; go_num⟩
    case measure => simp [intOf]; omega
  · obtain rfl : k = n := by omega
    have hmS : m = S.length := by rw [hm, ← HN.out, HS.out]
    clear hm
    subst hmS
    go_wp2_with fail
    refine (grow_nil S.length hlen _).mono ?_
    rintro e w1 ⟨v0, rfl, hown0, hb0⟩
    have hsz1 := hb0.size
    go_wp2
    go_loopw [6, 27] (fun x c wr => ∃ j : Nat, j ≤ k ∧ c = .int .i64 j ∧ wr.ownsRow w.heap.size 5 1 x (joined ps j).length (byteCells (joined ps j)) ∧ Below w.heap.size w wr) (fun _ c _ => k - (intOf c).toNat)
    case atStart => exact ⟨0, Nat.zero_le _, rfl, by rw [joined_zero]; exact hown0, hb0⟩
    case round =>
     obtain ⟨j, hj, rfl, hown, hbw⟩ := hrel
     have hsz := hbw.size
     by_cases hlt2 : j < k
     · have hjp : j < ps.length := by rw [HN.out]; exact hlt2
       obtain ⟨hcl0, harg⟩ := HC.out j hjp
       have hcl : wr.cell? ⟨g, j, none⟩ = some ps[j].1 := by
        rw [hbw.cell (World.block_lt_of_cell? w _ hcl0)]; exact hcl0
       obtain ⟨vj, hvj⟩ : ∃ vj, vj = ps[j].1 := ⟨_, rfl⟩
       obtain ⟨lj, hlj⟩ : ∃ lj, lj = ps[j].2 := ⟨_, rfl⟩
       rw [← hvj] at hcl harg
       rw [← hlj] at harg
       have hjs := joined_succ ps j hjp
       rw [← hlj] at hjs
       have hj2 := HLE.out (j + 1)
       rw [hjs, List.length_append] at hj2
       have hV : (vj = .slice none 0 0 ∧ lj = []) ∨ ∃ ad c, vj = .slice (some ad) lj.length c ∧ ∀ i u, (byteCells lj)[i]? = some u → wr.cell? (ad.add i) = some u := by
        rcases harg.2 with h | ⟨ad, c, h1, h2⟩
        · exact .inl h
        · exact .inr ⟨ad, c, h1, fun i u hu => by
           have h3 := h2 i u hu
           rw [hbw.cell (World.block_lt_of_cell? w _ h3)]; exact h3⟩
       have HV := Lib.hid hV
       have HJ := Lib.hid hjs
       clear hjs hV hvj hlj harg hcl0
       go_wp2_with (at_builtin; refine wpList_append_isArg _ rfl _ _ 24 rfl w.heap.size 5 i0 (.int .u8 0) Tryz.underlying24 hi hz0 hz1 hz2 rfl _ _ _ rfl hown _ lj rfl ?c1 ?c2 ?c3 ?_)
       case c1 => exact HV.out
       case c2 => omega
       case c3 => exact hsz
       intro v' w2 hown2 hgrow2
       go_wp2
       go_roundw
       case rel =>
        refine ⟨j + 1, by omega, by go_num, ?_, hbw.grown hgrow2 hsz (fun i hi => (hown.lt i hi).1)⟩
        rw [HJ.out, List.length_append, byteCells_append]
        exact hown2
       case measure => simp [intOf]; omega
     · obtain rfl : j = k := by omega
       have hjS : joined ps j = S := by rw [HS.out, HN.out]
       rw [hjS] at hown
       clear hjS
       go_wp2
       go_ret
       exact ⟨_, rfl, hown, hbw⟩
end Go.Proofs.YtnmekbbnglkmcaaGreat
namespace Go.Proofs.YtnmekbbnglkmcaaGreat
open Go.RowKit Go.Lib
theorem concat_three {w : World} {g : Nat} {u v x : Value} {k m q : List UInt8} (c0 : w.cell? ⟨g, 0, none⟩ = some u) (c1 : w.cell? ⟨g, 1, none⟩ = some v) (c2 : w.cell? ⟨g, 2, none⟩ = some x) (hu : IsArg w u k) (hv : IsArg w v m) (hx : IsArg w x q) (hlen : (k ++ m ++ q).length ≤ 140737488355328) :
 Calls Tryz.prog 53 #[.slice (some ⟨g, 0, none⟩) 3 3] w fun e w' => ∃ r, e = .returned r ∧ w'.ownsRow w.heap.size 5 1 r (k ++ m ++ q).length (byteCells (k ++ m ++ q)) ∧ Below w.heap.size w w' := by
 have hj : joined [(u, k), (v, m), (x, q)] 3 = k ++ m ++ q := by simp [joined]
 have h := concat_any g 3 [(u, k), (v, m), (x, q)] rfl (by decide) w (fun j hj => by
  match j, hj with
  | 0, _ => exact ⟨c0, hu⟩
  | 1, _ => exact ⟨c1, hv⟩
  | 2, _ => exact ⟨c2, hx⟩) (by rw [show [(u, k), (v, m), (x, q)].length = 3 from rfl, hj]; exact hlen)
 rw [show [(u, k), (v, m), (x, q)].length = 3 from rfl, hj] at h
 exact h
end Go.Proofs.YtnmekbbnglkmcaaGreat
namespace Go.Proofs.YtnmekbbnglkmcaaGreat
open Go.RowKit Go.Lib
theorem IsArg.part {w : World} {a : Option Addr} {l : List UInt8} {N c : Nat} (h : IsArg w (.slice a N c) l) (lo hi m : Nat) (h1 : lo ≤ hi) (h2 : hi ≤ l.length) (h3 : hi ≤ m) (h4 : m ≤ c) :
 IsArg w (sliced a lo hi m 1) ((l.drop lo).take (hi - lo)) := by
 have hlen : ((l.drop lo).take (hi - lo)).length = hi - lo := by simp; omega
 rcases h.2 with ⟨hv, rfl⟩ | ⟨ad, c0, hv, hcell⟩
 · cases hv
   obtain rfl : m = 0 := by omega
   obtain rfl : hi = 0 := by omega
   obtain rfl : lo = 0 := by omega
   exact isArg_nil w
 · cases hv
   have hd : ∀ j, j < hi - lo → ((l.drop lo).take (hi - lo)).getD j 0 = l.getD (lo + j) 0 := fun j hj => by
    simp [List.getD_eq_getElem?_getD, hj]
   unfold sliced
   rw [Nat.mul_one]
   have hadr : (if m = lo then some ad else (some ad : Option Addr).map (·.add lo)) = some (if m = lo then ad else ad.add lo) := by split <;> rfl
   rw [hadr]
   have hat : ∀ j, j < hi - lo → w.cell? ((if m = lo then ad else ad.add lo).add j) = some (.int .u8 (((l.drop lo).take (hi - lo)).getD j 0).toNat) := fun j hj => by
    have hm : ¬ m = lo := by omega
    rw [if_neg hm, Addr.add_add, hd j hj]
    refine hcell (lo + j) _ ?_
    simp [byteCells, List.getD_eq_getElem?_getD, List.getElem?_eq_getElem (show lo + j < l.length by omega)]
   refine ⟨?_, .inr ⟨_, m - lo, by rw [hlen], fun j u hu => ?_⟩⟩
   · by_cases h0 : hi - lo = 0
     · refine .inl ⟨_, _, by rw [h0], ?_⟩
       rw [h0]; simp
     · have hne : l ≠ [] := by intro h; subst h; simp at h2; omega
       rcases h.1 with ⟨_, _, _, h5⟩ | ⟨b, off, cap, h5, h6, h7, h8, h9⟩
       · exact absurd h5 hne
       · injection h5 with h5 _ h10
         injection h5 with h5
         subst h5
         have hm : ¬ m = lo := by omega
         have hadd : (Addr.add ⟨b, off, none⟩ lo) = ⟨b, off + lo, none⟩ := by rw [Addr.add_lit]
         refine .inr ⟨b, off + lo, m - lo, by rw [if_neg hm, hadd, hlen], by rw [hlen]; omega, by omega, h8, fun i hi' => ?_⟩
         rw [hlen] at hi'
         have := hat i hi'
         rw [if_neg hm, hadd, Addr.add_lit] at this
         exact this
   · have hj : j < hi - lo := by have := (List.getElem?_eq_some_iff.1 hu).1; rwa [byteCells_length, hlen] at this
     rw [hat j hj, ← hu]
     simp [byteCells, List.getD_eq_getElem?_getD, hj, List.getElem?_eq_getElem (show lo + j < l.length by omega)]
end Go.Proofs.YtnmekbbnglkmcaaGreat
namespace Go.Proofs.YtnmekbbnglkmcaaGreat
open Go.RowKit Go.Lib
set_option maxHeartbeats 1000000 in
theorem clone_any (v : Value) (l : List UInt8) (w : World) (hv : IsArg w v l) (hl : l.length ≤ 140737488355328) :
 Calls Tryz.prog 49 #[v] w fun e w' => ∃ r, e = .returned r ∧ w'.ownsRow w.heap.size 5 1 r l.length (byteCells l) ∧ Below w.heap.size w w' := by
 have hq : ∀ (w : World) (a : Option Addr) (n c n' c' : Nat), (binOp .eql 24 (.slice a n c) (.slice none n' c')).run Tryz.prog w = .ok (.bool a.isNone) w := fun w a n c n' c' => Lib.run_eql_slice_nil w _ _ a n c n' c' Tryz.underlying24
 rcases hv.2 with ⟨rfl, rfl⟩ | ⟨ad, c, rfl, hcell⟩
 · go_enter Tryz.func49, Tryz.ntmps49
   go_wp2
   go_ret
   exact ⟨_, rfl, World.ownsRow_nil w w.heap.size 5 1, Below.refl _ _⟩
 · obtain ⟨i0, hi, hz0, hz1, hz2⟩ := info_parts info8
   have hb : Below w.heap.size w (w.alloc (.cells #[] 5)) := (Below.refl _ _).alloc (Nat.le_refl _) _
   have HA := Lib.hid (hv.below hb).2
   have hown : (w.alloc (.cells #[] 5)).ownsRow w.heap.size 5 1 (.slice (some ⟨w.heap.size, 0, none⟩) 0 0) 0 [] := owns_empty (heap_alloc_new w _) (by decide) rfl _ (Nat.le_refl _)
   have HO := Lib.hid hown
   have HC := Lib.hid hcell
   clear hcell hown
   go_enter Tryz.func49, Tryz.ntmps49
   go_wp2_with (at_builtin; refine wpList_append_isArg _ rfl _ _ 24 rfl w.heap.size 5 i0 (.int .u8 0) Tryz.underlying24 hi hz0 hz1 hz2 rfl _ _ _ rfl HO.out _ l rfl HA.out ?c2 ?c3 ?_)
   case c2 => omega
   case c3 => simp
   intro v' w1 hown1 hgrow
   have HG := Lib.hid (hb.grown hgrow (by simp) (fun k hk => (HO.out.lt k hk).1))
   go_wp2
   go_ret
   exact ⟨_, rfl, hown1, HG.out⟩
end Go.Proofs.YtnmekbbnglkmcaaGreat
namespace Go.Proofs.YtnmekbbnglkmcaaGreat
open Go.RowKit Go.Lib
theorem IsArg.shape {w : World} {v : Value} {l : List UInt8} (h : IsArg w v l) : ∃ a c, v = .slice a l.length c ∧ l.length ≤ c := by
 rcases h.2 with ⟨rfl, rfl⟩ | ⟨ad, c, rfl, _⟩
 · exact ⟨none, 0, rfl, Nat.le_refl _⟩
 · refine ⟨some ad, c, rfl, ?_⟩
   by_cases h0 : l = []
   · subst h0; exact Nat.zero_le _
   · exact (h.1.cap h0).1
theorem IsArg.shape2 {w : World} {v : Value} {l : List UInt8} (h : IsArg w v l) : ∃ a n c, v = .slice a n c ∧ n = l.length := by
 obtain ⟨a, c, h1, _⟩ := h.shape
 exact ⟨a, _, c, h1, rfl⟩
theorem slice_lhm (a : Option Addr) (n c lo hi m : Nat) (h1 : lo ≤ hi) (h2 : hi ≤ m) (h3 : m ≤ c) (W : World) :
 (Instr.slice 24 (.slice a n c) (some (.int .i64 lo)) (some (.int .i64 hi)) (some (.int .i64 m))).run Tryz.prog W = .ok (sliced a lo hi m 1) W := by
 rw [run_slice_lhm (P := Tryz.prog) W 24 a n c elemBytes .i64 .i64 .i64 lo hi m (by omega) (by omega) (by omega) (by omega), sizeByte]
 rfl
theorem slice_hm (a : Option Addr) (n c hi m : Nat) (h2 : hi ≤ m) (h3 : m ≤ c) (W : World) :
 (Instr.slice 24 (.slice a n c) none (some (.int .i64 hi)) (some (.int .i64 m))).run Tryz.prog W = .ok (sliced a 0 hi m 1) W := by
 rw [run_slice_hm (P := Tryz.prog) W 24 a n c elemBytes .i64 .i64 hi m (by omega) (by omega) (by omega), sizeByte]
 rfl
set_option maxHeartbeats 1000000 in
theorem parts_any (v : Value) (l : List UInt8) (w : World) (hv : IsArg w v l) (x y : Nat) (hxy : x + y ≤ l.length) (hl : l.length ≤ 8192) :
 Calls Tryz.prog 52 #[v, .int .i64 x, .int .i64 y] w fun e w' => ∃ p q r, e = .returned (.tuple #[p, q, r]) ∧ IsArg w' p (l.take x) ∧ IsArg w' q ((l.drop x).take y) ∧ IsArg w' r (l.drop (x + y)) ∧ Below w.heap.size w w' := by
 obtain ⟨a, c, rfl, hc⟩ := hv.shape
 obtain ⟨n, hn⟩ : ∃ n, n = l.length := ⟨_, rfl⟩
 rw [← hn] at hc hxy hl hv
 obtain ⟨m, hm⟩ : ∃ m, m = x + y := ⟨_, rfl⟩
 have HV := Lib.hid hv
 have HN := Lib.hid hn
 have HM := Lib.hid hm
 have hmi : (x : Int) + (y : Int) = (m : Int) := by omega
 rw [← hm] at hxy
 have hxm : x ≤ m := by omega
 have s1 := slice_hm a n c x x (Nat.le_refl _) (by omega)
 have s2 := slice_lhm a n c x m m hxm (Nat.le_refl _) (by omega)
 have s3 := slice_lhm a n c m n n hxy (Nat.le_refl _) hc
 rw [← hn]
 obtain ⟨u1, hu1⟩ : ∃ u, u = sliced a 0 x x 1 := ⟨_, rfl⟩
 obtain ⟨u2, hu2⟩ : ∃ u, u = sliced a x m m 1 := ⟨_, rfl⟩
 obtain ⟨u3, hu3⟩ : ∃ u, u = sliced a m n n 1 := ⟨_, rfl⟩
 rw [← hu1] at s1
 rw [← hu2] at s2
 rw [← hu3] at s3
 have HU1 := Lib.hid hu1
 have HU2 := Lib.hid hu2
 have HU3 := Lib.hid hu3
 clear hv hn hm hu1 hu2 hu3
 go_enter Tryz.func52, Tryz.ntmps52
 go_wp2
 go_quiet (fail)
 go_wp2
 go_ret3
 have hb : Below w.heap.size w (w.drewN nq) := below_drewN (Below.refl _ _) nq
 have HV2 := (HV.out).below hb
 have p1 := HV2.part 0 x x (Nat.zero_le _) (by rw [← HN.out]; omega) (Nat.le_refl _) (by omega)
 have p2 := HV2.part x m m hxm (by rw [← HN.out]; omega) (Nat.le_refl _) (by omega)
 have p3 := HV2.part m n n hxy (by rw [← HN.out]; omega) (Nat.le_refl _) hc
 rw [← HU1.out] at p1
 rw [← HU2.out] at p2
 rw [← HU3.out] at p3
 rw [Nat.sub_zero, List.drop_zero] at p1
 rw [show m - x = y by rw [HM.out]; omega] at p2
 rw [List.take_of_length_le (by rw [List.length_drop, ← HN.out]; omega), HM.out] at p3
 exact ⟨_, _, _, rfl, p1, p2, p3, hb⟩
set_option maxHeartbeats 1000000 in
theorem get_any (v : Value) (l : List UInt8) (w : World) (hv : IsArg w v l) (x y : Int) (hl : l.length ≤ maxLen) :
 Calls Tryz.prog 109 #[.agg #[v], .int .i64 x, .int .i64 y] w fun e w' => ∃ r, e = .returned (.tuple #[r, .int .i64 (faultOf l.length x y)]) ∧ w'.ownsRow w.heap.size 5 1 r (getOf l x y).length (byteCells (getOf l x y)) ∧ Below w.heap.size w w' := by
 obtain ⟨a, c, rfl, hc⟩ := hv.shape
 obtain ⟨f, hf⟩ : ∃ f, f = faultOf l.length x y := ⟨_, rfl⟩
 obtain ⟨g, hg⟩ : ∃ g, g = getOf l x y := ⟨_, rfl⟩
 rw [← hf, ← hg]
 have HL := Lib.hid hl
 have HV := Lib.hid hv
 have HF := Lib.hid hf
 have HG := Lib.hid hg
 have hbA : Below w.heap.size w (w.alloc (.cells #[.slice a l.length c] 26)) := (Below.refl _ _).alloc (Nat.le_refl _) _
 have HBA := Lib.hid hbA
 clear hl hv hc hbA
 by_cases h0 : f = 0
 · subst h0
   obtain ⟨k0, k1, k2, k3, k4⟩ := fault_zero hf.symm
   have hg2 : g = (l.drop x.toNat).take y.toNat := by rw [hg]; exact getOf_some hf.symm
   obtain ⟨x, rfl⟩ := Int.eq_ofNat_of_zero_le k1
   obtain ⟨y, rfl⟩ := Int.eq_ofNat_of_zero_le k3
   have hxy : x + y ≤ l.length := by omega
   rw [Int.toNat_natCast, Int.toNat_natCast] at hg2
   have HG2 := Lib.hid hg2
   clear hf hg hg2 k1 k3
   go_enter Tryz.func109, Tryz.ntmps109
   go_wp2_with fail
   refine (fault_any _ _ _ HL.out _ _ _).mono ?_
   rintro e w1 ⟨rfl, hb⟩
   rw [← HF.out]
   have hcl := box_cell hb
   have hb1 : Below w.heap.size w w1 := HBA.out.trans (hb.mono (by simp))
   have HB1 := Lib.hid hb1
   clear hb hb1
   go_wp2_with fail
   refine (parts_any _ _ _ (HV.out.below HB1.out) _ _ hxy k0).mono ?_
   rintro e w2 ⟨p, q, r, rfl, _, hq, _, hb2⟩
   have HB2 := Lib.hid (HB1.out.trans (hb2.mono HB1.out.size))
   clear hb2
   have HQ := Lib.hid hq
   clear hq
   rw [← HG2.out] at HQ
   go_wp2_with fail
   refine (clone_any _ _ _ HQ.out (by rw [HG2.out]; simp; omega)).mono ?_
   rintro e w3 ⟨s, rfl, hs, hb3⟩
   have HB3 := Lib.hid (HB2.out.trans (hb3.mono HB2.out.size))
   have HS := Lib.hid (ownsRow_base hs HB2.out.size)
   clear hs hb3
   go_wp2
   go_ret2
   exact ⟨_, rfl, HS.out, HB3.out⟩
 · have hg2 : g = [] := by rw [hg]; exact getOf_none (by rw [← hf]; exact h0)
   subst hg2
   clear hf hg
   go_enter Tryz.func109, Tryz.ntmps109
   go_wp2_with fail
   refine (fault_any _ _ _ HL.out _ _ _).mono ?_
   rintro e w1 ⟨rfl, hb⟩
   rw [← HF.out]
   have hb1 : Below w.heap.size w w1 := HBA.out.trans (hb.mono (by simp))
   have HB1 := Lib.hid hb1
   clear hb hb1
   go_wp2
   go_ret2
   exact ⟨_, rfl, World.ownsRow_nil w1 w.heap.size 5 1, HB1.out⟩
end Go.Proofs.YtnmekbbnglkmcaaGreat
namespace Go.Proofs.YtnmekbbnglkmcaaGreat
open Go.RowKit Go.Lib
theorem ownsRow_set {w : World} {base : Nat} {t : TypeId} {size : Nat} {v : Value} {n : Nat} {xs : List Value} (h : w.ownsRow base t size v n xs) (a : Addr) (x : Value) (ha : a.block < base) : (w.setCell a x).ownsRow base t size v n xs := by
 refine ⟨h.1, ?_⟩
 rcases h.2 with h2 | ⟨g, cap, cur, hv, hg, hh, r⟩
 · exact .inl h2
 · refine .inr ⟨g, cap, cur, hv, hg, ?_, r⟩
   have hne : a.block ≠ g := by omega
   simp [World.setCell, Array.getElem?_modify, hne, hh]
theorem second_box {w w1 : World} {u v : Value} {s t : TypeId} (hb : Below ((w.alloc (.cells #[u] s)).alloc (.cells #[v] t)).heap.size ((w.alloc (.cells #[u] s)).alloc (.cells #[v] t)) w1) :
 w1.cell? ⟨w.heap.size, 0, none⟩ = some u ∧ w1.cell? ⟨w.heap.size + 1, 0, none⟩ = some v ∧ w1.frozen? ⟨w.heap.size + 1, 0, none⟩ = false ∧ w.heap.size + 1 < w1.heap.size := by
 have h0 := hb.block w.heap.size (by simp; omega)
 have h1 := hb.block (w.heap.size + 1) (by simp)
 have h2 : ((w.alloc (.cells #[u] s)).alloc (.cells #[v] t)).heap[w.heap.size + 1]? = some (.cells #[v] t) := by simpa using heap_alloc_new (w.alloc (.cells #[u] s)) (.cells #[v] t)
 have h3 : ((w.alloc (.cells #[u] s)).alloc (.cells #[v] t)).heap[w.heap.size]? = some (.cells #[u] s) := by
  rw [heap_alloc_old (w.alloc (.cells #[u] s)) _ (by simp)]
  exact heap_alloc_new w _
 rw [h2] at h1
 rw [h3] at h0
 have h4 := hb.size
 simp at h4
 refine ⟨?_, ?_, ?_, by omega⟩
 · unfold World.cell?; rw [h0]; rfl
 · unfold World.cell?; rw [h1]; rfl
 · unfold World.frozen?; rw [h1]; rfl
set_option maxHeartbeats 1000000 in
theorem same_any (v : Value) (l : List UInt8) (w : World) (hv : IsArg w v l) (hl : l.length ≤ 140737488355328) :
 Calls Tryz.prog 51 #[.agg #[v]] w fun e w' => ∃ r, e = .returned (.agg #[r]) ∧ w'.ownsRow w.heap.size 5 1 r l.length (byteCells l) ∧ Below w.heap.size w w' := by
 have HV := Lib.hid hv
 have HB := Lib.hid (((Below.refl w.heap.size w).alloc (Nat.le_refl _) (.cells #[v] 26)).alloc (by simp) (.cells #[.slice none 0 0] 26))
 obtain ⟨a, c, rfl, _⟩ := hv.shape
 clear hv
 go_enter Tryz.func51, Tryz.ntmps51
 go_wp2_with fail
 refine (clone_any _ _ _ (HV.out.below HB.out) hl).mono ?_
 rintro e w1 ⟨r, rfl, hr, hb⟩
 have HB1 := Lib.hid (HB.out.trans (hb.mono (by simp; omega)))
 have HR := Lib.hid hr
 obtain ⟨_, hold, hfz, hlt⟩ := second_box hb
 obtain ⟨ra, rc, rfl, _⟩ := (isArg_of_owns hr).shape
 clear hr hb
 go_wp2
 refine bodyPost_ret (v := .agg #[.slice ra l.length rc]) (by simp [results, Tryz.results51, go_sem, hold]) rfl ⟨_, rfl, ?_, ?_⟩
 · exact ownsRow_base (ownsRow_set HR.out _ _ (by simp)) (by simp; omega)
 · exact HB1.out.setCell (by simp) _
theorem three_cells (w : World) (a b c : Value) (t : TypeId) : (w.alloc (.cells #[a, b, c] t)).cell? ⟨w.heap.size, 0, none⟩ = some a ∧ (w.alloc (.cells #[a, b, c] t)).cell? ⟨w.heap.size, 1, none⟩ = some b ∧ (w.alloc (.cells #[a, b, c] t)).cell? ⟨w.heap.size, 2, none⟩ = some c := by
 have h := heap_alloc_new w (.cells #[a, b, c] t)
 refine ⟨?_, ?_, ?_⟩
 all_goals (unfold World.cell?; rw [h]; rfl)
set_option maxHeartbeats 2000000 in
theorem put_any (v : Value) (l : List UInt8) (u : Value) (m : List UInt8) (w : World) (hv : IsArg w v l) (hu : IsArg w u m) (x : Int) (hl : l.length ≤ 140737488355328) (_ : m.length ≤ 140737488355328) :
 Calls Tryz.prog 21 #[.agg #[v], .int .i64 x, u] w fun e w' => ∃ r, e = .returned (.tuple #[.agg #[r], .int .i64 (faultOf l.length x m.length)]) ∧ w'.ownsRow w.heap.size 5 1 r (putOf l x m).length (byteCells (putOf l x m)) ∧ Below w.heap.size w w' := by
 have HV := Lib.hid hv
 have HU := Lib.hid hu
 have HL := Lib.hid hl
 have HB := Lib.hid (((Below.refl w.heap.size w).alloc (Nat.le_refl _) (.cells #[v] 26)).alloc (by simp) (.cells #[.slice none 0 0] 26))
 obtain ⟨a, c, rfl, _⟩ := hv.shape
 obtain ⟨ua, uc, rfl, _⟩ := hu.shape
 obtain ⟨f, hf⟩ : ∃ f, f = faultOf l.length x m.length := ⟨_, rfl⟩
 obtain ⟨g, hg⟩ : ∃ g, g = putOf l x m := ⟨_, rfl⟩
 rw [← hf, ← hg]
 have HF := Lib.hid hf
 have HG := Lib.hid hg
 have hgl : g.length = l.length := by rw [hg]; exact putOf_length _ _ _
 have HGL := Lib.hid hgl
 have HMX := Lib.hid (show l.length ≤ maxLen by unfold maxLen; omega)
 clear hv hu hgl
 by_cases h0 : f = 0
 · subst h0
   obtain ⟨k0, k1, k2, k3, k4⟩ := fault_zero hf.symm
   have hg2 : g = l.take x.toNat ++ m ++ l.drop (x.toNat + m.length) := by rw [hg]; exact putOf_some hf.symm
   obtain ⟨x, rfl⟩ := Int.eq_ofNat_of_zero_le k1
   have hxy : x + m.length ≤ l.length := by omega
   rw [Int.toNat_natCast] at hg2
   have HG2 := Lib.hid hg2
   have HXY := Lib.hid hxy
   clear hf hg hg2 k1 k2 k3 k4 hxy hl
   go_enter Tryz.func21, Tryz.ntmps21
   go_wp2_with fail
   refine (fault_any _ _ _ HMX.out _ _ _).mono ?_
   rintro e w1 ⟨rfl, hb⟩
   rw [← HF.out]
   have HB1 := Lib.hid hb
   obtain ⟨hcl, _, _, _⟩ := second_box hb
   clear hb
   have HB1w := Lib.hid (HB.out.trans (HB1.out.mono (by simp; omega)))
   go_wp2_with fail
   refine (parts_any _ _ _ (HV.out.below HB1w.out) _ _ HXY.out k0).mono ?_
   rintro e w2 ⟨p, q, r, rfl, hp, _, hr, hb2⟩
   have HB2 := Lib.hid (HB1.out.trans (hb2.mono HB1.out.size))
   have HB2w := Lib.hid (HB.out.trans (HB2.out.mono (by simp; omega)))
   obtain ⟨pa, pn, pc, rfl, hpn⟩ := hp.shape2
   obtain ⟨ra, rn, rc, rfl, hrn⟩ := hr.shape2
   clear hpn hrn
   have HP := Lib.hid hp
   have HR := Lib.hid hr
   clear hp hr hb2 hcl
   have h3 := three_cells w2 (.slice pa pn pc) (.slice ua m.length uc) (.slice ra rn rc) 24
   have H3 := Lib.hid h3
   clear h3
   have HB3 := Lib.hid (HB2w.out.alloc HB2w.out.size (.cells #[.slice pa pn pc, .slice ua m.length uc, .slice ra rn rc] 24))
   have HB3l := Lib.hid (((Below.refl w2.heap.size w2).alloc (Nat.le_refl _) (.cells #[.slice pa pn pc, .slice ua m.length uc, .slice ra rn rc] 24)))
   go_wp2_with fail
   refine (concat_three H3.out.1 H3.out.2.1 H3.out.2.2 (HP.out.below HB3l.out) (HU.out.below HB3.out) (HR.out.below HB3l.out) (by rw [← HG2.out, HGL.out]; exact HL.out)).mono ?_
   rintro e w3 ⟨s, rfl, hs, hb4⟩
   rw [← HG2.out] at hs
   have HS := Lib.hid hs
   have HB4 := Lib.hid (HB2.out.trans ((HB3l.out.trans (hb4.mono (by simp))).mono HB2.out.size))
   have HB4w := Lib.hid (HB.out.trans (HB4.out.mono (by simp; omega)))
   obtain ⟨_, hold, hfz, hlt⟩ := second_box HB4.out
   obtain ⟨sa, sc, rfl, _⟩ := (isArg_of_owns hs).shape
   clear hs hb4
   go_wp2
   refine bodyPost_ret (v := .tuple #[.agg #[.slice sa g.length sc], .int .i64 0]) (by simp [results, Tryz.results21, go_sem, hold]) rfl ⟨_, rfl, ?_, ?_⟩
   · exact ownsRow_base (ownsRow_set HS.out _ _ (by have := HB2.out.size; simp at this ⊢; omega)) (by have := HB2w.out.size; simp; omega)
   · exact HB4w.out.setCell (by simp) _
 · have hg2 : g = l := by rw [hg]; exact putOf_none (by rw [← hf]; exact h0)
   subst hg2
   clear hf hg
   go_enter Tryz.func21, Tryz.ntmps21
   go_wp2_with fail
   refine (fault_any _ _ _ HMX.out _ _ _).mono ?_
   rintro e w1 ⟨rfl, hb⟩
   rw [← HF.out]
   have HB1 := Lib.hid hb
   obtain ⟨hcl, _, _, _⟩ := second_box hb
   clear hb
   have HB1w := Lib.hid (HB.out.trans (HB1.out.mono (by simp; omega)))
   go_wp2_with fail
   refine (same_any _ _ _ (HV.out.below HB1w.out) HL.out).mono ?_
   rintro e w2 ⟨r, rfl, hr, hb2⟩
   have HB2 := Lib.hid (HB1.out.trans (hb2.mono HB1.out.size))
   have HB2w := Lib.hid (HB.out.trans (HB2.out.mono (by simp; omega)))
   have HR := Lib.hid hr
   obtain ⟨_, hold, hfz, hlt⟩ := second_box HB2.out
   obtain ⟨ra, rc, rfl, _⟩ := (isArg_of_owns hr).shape
   clear hr hb2 hcl
   go_wp2
   refine bodyPost_ret (v := .tuple #[.agg #[.slice ra g.length rc], .int .i64 f]) (by simp [results, Tryz.results21, go_sem, hold]) rfl ⟨_, rfl, ?_, ?_⟩
   · exact ownsRow_base (ownsRow_set HR.out _ _ (by have := HB1.out.size; simp at this ⊢; omega)) HB1w.out.size
   · exact HB2w.out.setCell (by simp) _
theorem zeros_bytes (k : Nat) : zeros k = byteCells (List.replicate k 0) := by simp [zeros, byteCells]
end Go.Proofs.YtnmekbbnglkmcaaGreat
namespace Go.Proofs.YtnmekbbnglkmcaaGreat
open Go.RowKit Go.Lib
def rowAt (l m : List UInt8) (x i : Nat) : List UInt8 := l.take x ++ m.take i ++ l.drop (x + i)
theorem rowAt_zero (l m : List UInt8) (x : Nat) : rowAt l m x 0 = l := by simp [rowAt]
theorem rowAt_length (l m : List UInt8) (x i : Nat) (h : x + m.length ≤ l.length) (hi : i ≤ m.length) : (rowAt l m x i).length = l.length := by simp [rowAt]; omega
theorem rowAt_step (l m : List UInt8) (x i : Nat) (h : x + m.length ≤ l.length) (hi : i < m.length) : (rowAt l m x i).set (x + i) (m.getD i 0) = rowAt l m x (i + 1) := by
 unfold rowAt
 have h1 : l.drop (x + i) = l[x + i]'(by omega) :: l.drop (x + (i + 1)) := by rw [List.drop_eq_getElem_cons (by omega)]; rfl
 have h2 : m.take (i + 1) = m.take i ++ [m.getD i 0] := by rw [List.take_succ_eq_append_getElem hi]; simp [hi]
 rw [h1, h2, List.set_append_right _ _ (by simp; omega)]
 have h3 : x + i - (l.take x ++ m.take i).length = 0 := by simp; omega
 rw [h3, List.set_cons_zero]
 simp
theorem rowAt_end (l m : List UInt8) (x : Nat) : rowAt l m x m.length = l.take x ++ m ++ l.drop (x + m.length) := by simp [rowAt]
theorem ownsRow_at {w : World} {base g n cap : Nat} {t : TypeId} {r : List UInt8} (h : w.ownsRow base t 1 (.slice (some ⟨g, 0, none⟩) n cap) n (byteCells r)) (j : Nat) (hj : j < r.length) :
 w.cell? ⟨g, j, none⟩ = some (.int .u8 (r.getD j 0).toNat) ∧ w.frozen? ⟨g, j, none⟩ = false ∧ base ≤ g := by
 have h1 := World.ownsRow.cells h rfl j (.int .u8 (r.getD j 0).toNat) (by simp [byteCells, hj])
 rw [Addr.add_lit, Nat.zero_add] at h1
 refine ⟨h1, ?_⟩
 rcases h.2 with ⟨hv, _⟩ | ⟨g', cap', cur, hv, hg, hh, _⟩
 · cases hv
 · cases hv
   exact ⟨by simp [World.frozen?, hh], hg⟩
theorem ownsRow_put {w : World} {base g n cap : Nat} {t : TypeId} {r : List UInt8} (h : w.ownsRow base t 1 (.slice (some ⟨g, 0, none⟩) n cap) n (byteCells r)) (j : Nat) (y : UInt8) :
 (w.setCell ⟨g, j, none⟩ (.int .u8 y.toNat)).ownsRow base t 1 (.slice (some ⟨g, 0, none⟩) n cap) n (byteCells (r.set j y)) := by
 have h1 := (World.ownsRow.stored h j (.int .u8 y.toNat)).1
 have h2 : byteCells (r.set j y) = (byteCells r).set j (.int .u8 y.toNat) := by simp [byteCells, List.map_set]
 rw [h2]
 exact h1
def Given (W : World) (base : Nat) (v : Value) (l : List UInt8) (r : Value) (G : List UInt8) : Prop := (r = v ∧ G = l) ∨ W.ownsRow base 5 1 r G.length (byteCells G)
theorem Given.below {W W1 : World} {base : Nat} {v : Value} {l : List UInt8} {r : Value} {G : List UInt8} (h : Given W base v l r G) (hb : Below W.heap.size W W1) : Given W1 base v l r G := by
 rcases h with h | h
 · exact .inl h
 · exact .inr (ownsRow_below h hb)
theorem Given.set {W : World} {base : Nat} {v : Value} {l : List UInt8} {r : Value} {G : List UInt8} (h : Given W base v l r G) (a : Addr) (c : Value) (ha : a.block < base) : Given (W.setCell a c) base v l r G := by
 rcases h with h | h
 · exact .inl h
 · exact .inr (ownsRow_set h a c ha)
theorem Given.base {W : World} {base b2 : Nat} {v : Value} {l : List UInt8} {r : Value} {G : List UInt8} (h : Given W base v l r G) (hb : b2 ≤ base) : Given W b2 v l r G := by
 rcases h with h | h
 · exact .inl h
 · exact .inr (ownsRow_base h hb)
theorem Given.arg {w W : World} {base : Nat} {v : Value} {l : List UInt8} {r : Value} {G : List UInt8} (h : Given W base v l r G) (hv : IsArg w v l) (hb : Below w.heap.size w W) : IsArg W r G := by
 rcases h with ⟨rfl, rfl⟩ | h
 · exact hv.below hb
 · exact isArg_of_owns h
theorem Given.shape {w W : World} {base : Nat} {v : Value} {l : List UInt8} {r : Value} {G : List UInt8} (h : Given W base v l r G) (hv : IsArg w v l) : ∃ a n c, r = .slice a n c := by
 rcases h with ⟨rfl, rfl⟩ | h
 · obtain ⟨a, c, h1, _⟩ := hv.shape
   exact ⟨a, _, c, h1⟩
 · obtain ⟨a, c, h1, _⟩ := (isArg_of_owns h).shape
   exact ⟨a, _, c, h1⟩
set_option maxHeartbeats 4000000 in
theorem refPut_any (v : Value) (l : List UInt8) (u : Value) (m : List UInt8) (w : World) (hv : IsArg w v l) (hu : IsArg w u m) (x : Int) (hl : l.length ≤ 140737488355328) (hm : m.length ≤ 140737488355328) :
 Calls Tryz.prog 92 #[.agg #[v], .int .i64 x, u] w fun e w' => ∃ r, e = .returned (.tuple #[.agg #[r], .int .i64 (faultOf l.length x m.length)]) ∧ Given w' w.heap.size v l r (putOf l x m) ∧ Below w.heap.size w w' := by
 have HV := Lib.hid hv
 have HU := Lib.hid hu
 have HL := Lib.hid hl
 have HB := Lib.hid (((Below.refl w.heap.size w).alloc (Nat.le_refl _) (.cells #[v] 26)).alloc (by simp) (.cells #[.slice none 0 0] 26))
 obtain ⟨a, c, rfl, hq1⟩ := hv.shape
 obtain ⟨ua, uc, rfl, hq2⟩ := hu.shape
 clear hq1 hq2
 obtain ⟨f, hf⟩ : ∃ f, f = faultOf l.length x m.length := ⟨_, rfl⟩
 obtain ⟨g, hg⟩ : ∃ g, g = putOf l x m := ⟨_, rfl⟩
 rw [← hf, ← hg]
 have HG := Lib.hid hg
 have HMX := Lib.hid (show l.length ≤ maxLen by unfold maxLen; omega)
 have HMI := Lib.hid (show -9223372036854775808 ≤ (m.length : Int) ∧ (m.length : Int) ≤ 9223372036854775807 by omega)
 clear hv hu hm
 rcases fault_cases l.length x m.length with ⟨h0, h1⟩ | ⟨h0, h1, _⟩ | ⟨h0, k0, k1, k2, k3, k4⟩
 · obtain rfl : f = 3 := by rw [hf, h0]
   have hg2 : g = l := by rw [hg]; exact putOf_none (by rw [h0]; decide)
   subst hg2
   have HC := Lib.hid (show false = decide (g.length ≤ 8192) from (decide_eq_false (by omega)).symm)
   clear hf hg h0 h1 hl
   go_enter Tryz.func92, Tryz.ntmps92
   go_wp2_with fail
   refine (refCheck_any _ _ _ HMX.out _ HC.out _).mono ?_
   rintro e w1 ⟨rfl, hb⟩
   have HB1w := Lib.hid (HB.out.trans (hb.mono (by simp; omega)))
   obtain ⟨hcl, hold, hfz, hlt⟩ := second_box hb
   clear hb
   go_wp2
   refine bodyPost_ret (v := .tuple #[.agg #[.slice a g.length c], .int .i64 3]) (by simp [results, Tryz.results92, go_sem, hold]) rfl ⟨_, rfl, ?_, ?_⟩
   · exact .inl ⟨rfl, rfl⟩
   · exact HB1w.out.setCell (by simp) _
 · obtain rfl : f = 40 := by rw [hf, h0]
   have hg2 : g = l := by rw [hg]; exact putOf_none (by rw [h0]; decide)
   subst hg2
   have HC := Lib.hid (show true = decide (g.length ≤ 8192) from (decide_eq_true h1).symm)
   have HI := Lib.hid (show false = decide (faultOf g.length x m.length = 0) from (decide_eq_false (by rw [h0]; decide)).symm)
   have H1 := Lib.hid h1
   clear hf hg h0 h1 hl
   go_enter Tryz.func92, Tryz.ntmps92
   go_wp2_with fail
   refine (refCheck_any _ _ _ HMX.out _ HC.out _).mono ?_
   rintro e w1 ⟨rfl, hb⟩
   have HB1 := Lib.hid hb
   have hcl := (second_box hb).1
   clear hb
   go_wp2_with fail
   refine (inside_any _ _ _ H1.out _ _ HMI.out _ HI.out _).mono ?_
   rintro e w2 ⟨rfl, hb⟩
   have HB2 := Lib.hid (HB1.out.trans (hb.mono HB1.out.size))
   have HB2w := Lib.hid (HB.out.trans (HB2.out.mono (by simp; omega)))
   clear hb hcl
   obtain ⟨hcl, hold, hfz, hlt⟩ := second_box HB2.out
   go_wp2
   refine bodyPost_ret (v := .tuple #[.agg #[.slice a g.length c], .int .i64 40]) (by simp [results, Tryz.results92, go_sem, hold]) rfl ⟨_, rfl, ?_, ?_⟩
   · exact .inl ⟨rfl, rfl⟩
   · exact HB2w.out.setCell (by simp) _
 · obtain rfl : f = 0 := by rw [hf, h0]
   have hg2 : g = l.take x.toNat ++ m ++ l.drop (x.toNat + m.length) := by rw [hg]; exact putOf_some h0
   have HC := Lib.hid (show true = decide (l.length ≤ 8192) from (decide_eq_true k0).symm)
   have HI := Lib.hid (show true = decide (faultOf l.length x m.length = 0) from (decide_eq_true h0).symm)
   have H1 := Lib.hid k0
   obtain ⟨x, rfl⟩ := Int.eq_ofNat_of_zero_le k1
   have hxy : x + m.length ≤ l.length := by omega
   rw [Int.toNat_natCast, ← rowAt_end] at hg2
   have HG2 := Lib.hid hg2
   have HXY := Lib.hid hxy
   obtain ⟨i0, hi, hz0, hz1, hz2⟩ := info_parts info8
   clear hf hg h0 k0 k1 k2 k3 k4 hg2 hxy hl
   go_enter Tryz.func92, Tryz.ntmps92
   go_wp2_with fail
   refine (refCheck_any _ _ _ HMX.out _ HC.out _).mono ?_
   rintro e w1 ⟨rfl, hb⟩
   have HB1 := Lib.hid hb
   have hcl := (second_box hb).1
   clear hb
   go_wp2_with fail
   refine (inside_any _ _ _ H1.out _ _ HMI.out _ HI.out _).mono ?_
   rintro e w2 ⟨rfl, hb⟩
   have HB2 := Lib.hid (HB1.out.trans (hb.mono HB1.out.size))
   have HB2w := Lib.hid (HB.out.trans (HB2.out.mono (by simp; omega)))
   clear hb hcl
   have HB3 := Lib.hid (HB2.out.alloc HB2.out.size (.cells #[] 5))
   have HB3w := Lib.hid (HB2w.out.alloc HB2w.out.size (.cells #[] 5))
   have hcl := (second_box HB3.out).1
   have HO := Lib.hid (ownsRow_empty (heap_alloc_new w2 (.cells #[] 5)) (cap := 0) (by decide) rfl _ (Nat.le_refl _))
   have HA := Lib.hid (HV.out.below HB3w.out).2
   go_wp2_with (at_builtin; refine wpList_append_isArg _ rfl _ _ 24 rfl w2.heap.size 5 i0 (.int .u8 0) Tryz.underlying24 hi hz0 hz1 hz2 rfl _ _ _ rfl HO.out _ l rfl HA.out ?c2 ?c3 ?_)
   case c2 => rw [Nat.zero_add]; exact HL.out
   case c3 => simp
   intro v' w3 hown hgrow
   have HB4 := Lib.hid (HB3.out.grown hgrow (by have := HB2.out.size; simp at this ⊢; omega) (fun k hk => Nat.le_trans HB2.out.size (HO.out.lt k hk).1))
   have hown2 : w3.ownsRow w2.heap.size 5 1 v' l.length (byteCells (rowAt l m x 0)) := by rw [rowAt_zero]; simpa using hown
   obtain ⟨va, vc, rfl, hvc⟩ := (isArg_of_owns (l := l) (by simpa using hown)).shape
   have HO2 := Lib.hid hown2
   clear hown hown2 hgrow hcl hvc
   go_wp2
   go_loopw [9] (fun cn wr => ∃ i : Nat, i ≤ m.length ∧ cn = .int .i64 i ∧ wr.ownsRow w2.heap.size 5 1 (.slice va l.length vc) l.length (byteCells (rowAt l m x i)) ∧ Below ((w.alloc (.cells #[.slice a l.length c] 26)).alloc (.cells #[.slice none 0 0] 26)).heap.size ((w.alloc (.cells #[.slice a l.length c] 26)).alloc (.cells #[.slice none 0 0] 26)) wr) (fun cn _ => m.length - (intOf cn).toNat)
   case atStart => exact ⟨0, Nat.zero_le _, rfl, HO2.out, HB4.out⟩
   case round =>
    obtain ⟨i, hi', rfl, hown, hb⟩ := hrel
    have HBr := Lib.hid hb
    have HOr := Lib.hid hown
    have HBrw := Lib.hid (HB.out.trans (hb.mono (by simp; omega)))
    clear hb
    by_cases hlt : i < m.length
    · obtain ⟨j, hj⟩ : ∃ j, j = x + i := ⟨_, rfl⟩
      have hji : (x : Int) + (i : Int) = (j : Int) := by omega
      have hjl : j < l.length := by have := HXY.out; omega
      have hj8 : j ≤ 8192 := by have := H1.out; omega
      have hm8 : m.length ≤ 8192 := by have := H1.out; have := HXY.out; omega
      have HJ := Lib.hid hj
      obtain ⟨gb, hva, hgb⟩ : ∃ gb, va = some ⟨gb, 0, none⟩ ∧ w2.heap.size ≤ gb := by
       rcases hown.2 with ⟨hv, _⟩ | ⟨g', cap', cur, hv, hg, _⟩
       · simp at hv; omega
       · cases hv; exact ⟨_, rfl, hg⟩
      subst hva
      have hra := ownsRow_at hown j (by rw [rowAt_length l m x i HXY.out hi']; exact hjl)
      have hcl := hra.1
      have hfz := hra.2.1
      obtain ⟨y, hy⟩ : ∃ y, y = m.getD i 0 := ⟨_, rfl⟩
      have HY := Lib.hid hy
      obtain ⟨b, off, ucell, hbu⟩ : ∃ b off, ua = some ⟨b, off, none⟩ ∧ (b < w.heap.size ∧ ∀ k, k < m.length → w.cell? ⟨b, off + k, none⟩ = some (.int .u8 (m.getD k 0).toNat)) := by
       rcases HU.out.1 with ⟨_, _, _, h0⟩ | ⟨b, off, cap, h1, _, _, h4, h5⟩
       · subst h0; simp at hlt
       · cases h1; exact ⟨b, off, rfl, h4, h5⟩
      subst ucell
      have hcu : wr.cell? ⟨b, off + i, none⟩ = some (.int .u8 y.toNat) := by rw [hy, HBrw.out.cell hbu.1]; exact hbu.2 i hlt
      clear hra hown hj hbu hy
      go_wp2
      go_roundw
      case rel =>
       refine ⟨i + 1, by omega, by go_num, ?_, HBr.out.setCell (show _ ≤ gb by have := HB2.out.size; omega) _⟩
       have hs := ownsRow_put HOr.out j y
       rw [HY.out, HJ.out, rowAt_step l m x i HXY.out hlt, ← HJ.out, ← HY.out] at hs
       exact hs
      case measure => simp [intOf]; omega
    · obtain rfl : i = m.length := by omega
      obtain ⟨_, hold, hfz, hlt2⟩ := second_box HBr.out
      clear hown hi' hlt
      go_wp2
      refine bodyPost_ret (v := .tuple #[.agg #[.slice va l.length vc], .int .i64 0]) (by simp [results, Tryz.results92, go_sem, hold]) rfl ⟨_, rfl, ?_, ?_⟩
      · rw [HG2.out]
        refine .inr ?_
        rw [rowAt_length l m x _ HXY.out (Nat.le_refl _)]
        exact ownsRow_base (ownsRow_set HOr.out _ _ (by have := HB2.out.size; simp at this ⊢; omega)) HB2w.out.size
      · exact HBrw.out.setCell (by simp) _
end Go.Proofs.YtnmekbbnglkmcaaGreat
namespace Go.Proofs.YtnmekbbnglkmcaaGreat
open Go.RowKit Go.Lib
set_option maxHeartbeats 400000 in
theorem place_lo (i n : Int) (w : World) :
 Calls Tryz.prog 136 #[.agg #[], .int .i64 i, .int .i64 n] w fun e w' => e = .returned (.int .i64 i) ∧ w' = w.alloc (.cells #[] 168) := by
 go_enter Tryz.func136, Tryz.ntmps136
 go_wp2
 go_ret
 exact ⟨rfl, rfl⟩
theorem method_lo (w : World) : (method 290 168 (.agg #[]) "phonograph/num.place").run Tryz.prog w = .ok (136, .agg #[]) w := by kernel_rfl
set_option maxHeartbeats 1000000 in
theorem put_lo (n : Nat) (z : Int) (k : Nat) (hz : Clamped z k) (w : World) :

 Calls Tryz.prog 120 #[.agg #[], .int .u64 n, .int .i64 z] w fun e w' => ∃ g, e = .returned (.slice (some ⟨g, 0, none⟩) k k) ∧ w'.heap[g]? = some (.cells (byteCells (leB n k)).toArray 5 (0, 0)) ∧ w.heap.size ≤ g ∧ Below w.heap.size w w' := by
 have hk : k ≤ 8 := by rcases hz with h | h | h <;> omega
 have hmk := run_make_row' (P := Tryz.prog) 24 5 (.int .u8 0) 1 Tryz.underlying24 info8 rfl .i64 .i64 k (by omega) (by omega)
 have hme := method_lo
 go_enter Tryz.func120, Tryz.ntmps120
 go_upto_region 1 with fail
 go_cut [2] (fun x wx => x = .int .i64 k ∧ wx = w.alloc (.cells #[] 168))
 case first =>
  rcases hz with ⟨h, rfl⟩ | ⟨h1, h2, rfl⟩ | ⟨h, rfl⟩
  all_goals (go_wp2_with fail; go_meet; exact ⟨rfl, rfl⟩)
 case rest =>
 obtain ⟨rfl, rfl⟩ := hcut
 go_wp2
 go_loopw [15] (fun c wr => ∃ i : Nat, i ≤ k ∧ c = .int .i64 i ∧ wr.heap[w.heap.size + 1]? = some (.cells (loRow n k i).toArray 5 (0, 0)) ∧ Below w.heap.size w wr) (fun c _ => k - (intOf c).toNat)
 case atStart =>
  refine ⟨0, Nat.zero_le _, rfl, ?_, ((Below.refl _ _).alloc (Nat.le_refl _) _).alloc (by simp) _⟩
  rw [loRow_zero, ← made_zeros, Array.toArray_toList]
  simpa using heap_alloc_new (w.alloc (.cells #[] 168)) (.cells (madeCells #[Value.int .u8 0] k) 5)
 case round =>
  obtain ⟨i, hi, rfl, hrow, hb⟩ := hrel
  by_cases hlt : i < k
  · have hlt' : w.heap.size + 1 < wr.heap.size := by have := (Array.getElem?_eq_some_iff.1 hrow).1; exact this
    have hcell : wr.cell? ⟨w.heap.size + 1, i, none⟩ = some (.int .u8 0) := by simp [World.cell?, hrow, loRow_at _ _ _ hlt]
    have hfz : wr.frozen? ⟨w.heap.size + 1, i, none⟩ = false := by simp [World.frozen?, hrow]
    have hm8 : IntKind.i64.wrap (8 * (i : Int)) = 8 * (i : Int) := IntWalk.i64_in _ (by omega)
    have hm9 : 0 ≤ 8 * (i : Int) := by omega
    have HR := Lib.hid hrow
    clear hrow
    go_wp2
    go_region_with (go_at_call 136; refine (place_lo _ _ _).mono ?_; rintro e w' ⟨rfl, rfl⟩)
    go_wp2
    go_roundw
    case rel => exact ⟨i + 1, by omega, by go_num, row_drew (row_alloc (by rw [byte_put, ← loRow_set _ _ _ hlt]; exact row_set HR.out _) _), ((hb.setCell (by simp) _).alloc (by simp; omega) _).drew⟩
    case measure => simp [intOf]; omega
  · obtain rfl : i = k := by omega
    have HR := Lib.hid hrow
    clear hrow
    go_wp2
    go_ret
    exact ⟨_, rfl, by rw [← loRow_all]; exact HR.out, by omega, hb⟩
set_option maxHeartbeats 400000 in
theorem le_row (n : Nat) (z : Int) (k : Nat) (hz : Clamped z k) (w : World) :
 Calls Tryz.prog 117 #[.int .u64 n, .int .i64 z] w fun e w' => ∃ g, e = .returned (.slice (some ⟨g, 0, none⟩) k k) ∧ w'.heap[g]? = some (.cells (byteCells (leB n k)).toArray 5 (0, 0)) ∧ w.heap.size ≤ g ∧ Below w.heap.size w w' := by
 go_enter Tryz.func117, Tryz.ntmps117
 go_wp2_with (go_at_call 120; refine (put_lo _ _ _ hz _).mono ?_; rintro e w' ⟨g, rfl, ho, hg, hb⟩)
 go_ret
 exact ⟨g, rfl, ho, hg, hb⟩
theorem le_any (n : Nat) (z : Int) (k : Nat) (hz : Clamped z k) (w : World) :
 Calls Tryz.prog 117 #[.int .u64 n, .int .i64 z] w fun e w' => ∃ v, e = .returned v ∧ w'.ownsRow w.heap.size 5 1 v k (byteCells (leB n k)) ∧ Below w.heap.size w w' :=
 (le_row n z k hz w).mono fun e w' ⟨g, he, ho, hg, hb⟩ => ⟨_, he, owns_of_row ho hg (by simp [byteCells]) (clamped_max hz), hb⟩
set_option maxHeartbeats 1000000 in
theorem get_lo (v : Value) (l : List UInt8) (w : World) (hv : IsBytes w v l) :
 Calls Tryz.prog 118 #[.agg #[], v] w fun e w' => e = .returned (.int .u64 (leN (l.take 8))) ∧ Below w.heap.size w w' := by
 have hme := method_lo
 rcases hv with ⟨a0, c0, rfl, rfl⟩ | ⟨b, off, cap, rfl, hc1, hc2, hb, hcell⟩
 · go_enter Tryz.func118, Tryz.ntmps118
   go_wp2
   go_loopw [6, 12] (fun x c wr => x = .int .u64 0 ∧ c = .int .i64 0 ∧ Below w.heap.size w wr) (fun _ _ _ => 0)
   case atStart => exact ⟨rfl, rfl, (Below.refl _ _).alloc (Nat.le_refl _) _⟩
   case round =>
    obtain ⟨rfl, rfl, hb⟩ := hrel
    go_wp2
    go_ret
    exact ⟨rfl, hb⟩
 · unfold maxLen at hc2
   have HC := Lib.hid hcell
   clear hcell
   go_enter Tryz.func118, Tryz.ntmps118
   go_upto_region 1 with fail
   go_cut [5] (fun x wx => x = .int .i64 ((l.take 8).length : Nat) ∧ wx = w.alloc (.cells #[] 168))
   case first =>
    by_cases h8 : 8 < l.length
    all_goals (go_wp2_with fail; go_meet; exact ⟨by simp [List.length_take]; omega, rfl⟩)
   case rest =>
   obtain ⟨rfl, rfl⟩ := hcut
   obtain ⟨m, hm⟩ : ∃ m, m = (l.take 8).length := ⟨_, rfl⟩
   rw [← hm]
   have hm8 : m ≤ 8 := by rw [hm]; simp [List.length_take]; omega
   have hml : m ≤ l.length := by rw [hm]; simp [List.length_take]; omega
   have Hm := Lib.hid hm
   clear hm
   go_wp2
   go_loopw [6, 12] (fun x c wr => ∃ i : Nat, i ≤ m ∧ c = .int .i64 i ∧ x = .int .u64 (leN (l.take i)) ∧ Below w.heap.size w wr ∧ w.heap.size < wr.heap.size) (fun _ c _ => m - (intOf c).toNat)
   case atStart => exact ⟨0, Nat.zero_le _, rfl, rfl, (Below.refl _ _).alloc (Nat.le_refl _) _, by simp⟩
   case round =>
    obtain ⟨i, hi, rfl, rfl, hbw, hsz⟩ := hrel
    by_cases hlt : i < m
    · have hbl : b < wr.heap.size := by omega
      have hcl : wr.cell? ⟨b, off + i, none⟩ = some (.int .u8 (l.getD (i) 0).toNat) := by rw [hbw.cell (by simpa using hb)]; exact HC.out _ (by omega)
      have hi8 : IntKind.i64.wrap (8 * (i : Int)) = 8 * (i : Int) := IntWalk.i64_in _ (by omega)
      have hi9 : 0 ≤ 8 * (i : Int) := by omega
      go_wp2_with (go_at_call 136; refine (place_lo _ _ _).mono ?_; rintro e w' ⟨rfl, rfl⟩)
      go_roundw
      case rel =>
       have hs := or_step (leN (l.take i)) i (l[i]?.getD 0) (by have := leN_lt (l.take i); rwa [List.length_take, Nat.min_eq_left (by omega)] at this) (by omega)
       rw [← leN_take l i (by omega)] at hs
       exact ⟨i + 1, by omega, by go_num, by rw [hs], hbw.alloc (by omega) _, by simp; omega⟩
      case measure => simp [intOf]; omega
    · obtain rfl : i = m := by omega
      go_wp2
      go_ret
      exact ⟨by rw [lo_end l _ Hm.out]; rfl, hbw⟩
set_option maxHeartbeats 400000 in
theorem fromLe_any (v : Value) (l : List UInt8) (w : World) (hv : IsBytes w v l) :
 Calls Tryz.prog 110 #[v] w fun e w' => e = .returned (.int .u64 (leN (l.take 8))) ∧ Below w.heap.size w w' := by
 go_enter Tryz.func110, Tryz.ntmps110
 go_wp2_with (go_at_call 118; refine (get_lo _ l _ hv).mono ?_; rintro e w' ⟨rfl, hb⟩)
 go_ret
 exact ⟨rfl, hb⟩
end Go.Proofs.YtnmekbbnglkmcaaGreat
namespace Go.Proofs.YtnmekbbnglkmcaaGreat
open Go.RowKit Go.Lib
set_option maxHeartbeats 1000000 in
theorem refLe_any (n : Nat) (z : Int) (k : Nat) (hz : Clamped z k) (hn : n < 18446744073709551616) (w : World) :
 Calls Tryz.prog 93 #[.int .u64 n, .int .i64 z] w fun e w' => ∃ v, e = .returned v ∧ w'.ownsRow w.heap.size 5 1 v k (byteCells (leB n k)) ∧ Below w.heap.size w w' := by
 obtain ⟨i0, hi, hz0, hz1, hz2⟩ := info_parts info8
 have hk : k ≤ 8 := by rcases hz with h | h | h <;> omega
 go_enter Tryz.func93, Tryz.ntmps93
 go_wp2
 go_loopw [0, 5, 6] (fun x v c wr => ∃ i : Nat, i ≤ k ∧ c = .int .i64 i ∧ x = .int .u64 ((n / 256 ^ i : Nat) : Int) ∧ wr.ownsRow w.heap.size 5 1 v i (byteCells (leB n i)) ∧ Below w.heap.size w wr) (fun _ _ c _ => k - (intOf c).toNat)
 case atStart => exact ⟨0, Nat.zero_le _, rfl, by simp, by simpa [leB, byteCells] using World.ownsRow_nil w w.heap.size 5 1, Below.refl _ _⟩
 case round =>
  obtain ⟨i, hi', rfl, rfl, hown, hb⟩ := hrel
  by_cases hlt : i < k
  · have h1 : (i : Int) < z := by rcases hz with h | h | h <;> omega
    have h2 : (i : Int) < 8 := by omega
    have hsz := hb.size
    obtain ⟨q, hq⟩ : ∃ q, q = n / 256 ^ i := ⟨_, rfl⟩
    rw [← hq]
    have hq1 : q < 18446744073709551616 := by rw [hq]; exact Nat.lt_of_le_of_lt (Nat.div_le_self _ _) hn
    have Hq := Lib.hid hq
    clear hq
    go_wp2_with (at_builtin; refine wpList_append_own _ rfl _ _ 24 rfl w.heap.size 5 i0 (.int .u8 0) 1 1 Tryz.underlying24 hi hz0 hz1 hz2 rfl (by decide) _ _ _ rfl (hown.alloc _) ⟨wr.heap.size, 0, none⟩ 1 1 [.int .u8 ((q : Int) % 256)] rfl rfl ?c1 ?c2 ?c3 ?c4 ?c5 ?_)
    case c1 => exact cell_one_new _ _ _
    case c2 => intro u hu; simp at hu; subst hu; rfl
    case c3 => unfold maxLen; omega
    case c4 => omega
    case c5 => simp; omega
    intro v' w1 hown' hgrow _
    go_wp2
    go_roundw
    case rel =>
     refine ⟨i + 1, by omega, by go_num, by rw [div_step n i q Hq.out], ?_, ?_⟩
     · rw [leB_succ, byteCells_append]
       simpa [byteCells, ← Hq.out] using hown'
     · exact (hb.alloc hsz _).grown hgrow (by simp; omega) (fun k hk => (hown.lt k hk).1)
    case measure => simp [intOf]; omega
  · obtain rfl : i = k := by omega
    have h2 : ¬ ((i : Int) < z ∧ (i : Int) < 8) := by rcases hz with h | h | h <;> omega
    by_cases h1 : (i : Int) < z
    · have h3 : ¬ (i : Int) < 8 := by omega
      go_wp2
      go_ret
      exact ⟨_, rfl, hown, hb⟩
    · go_wp2
      go_ret
      exact ⟨_, rfl, hown, hb⟩
end Go.Proofs.YtnmekbbnglkmcaaGreat
namespace Go.Proofs.YtnmekbbnglkmcaaGreat
open Go.RowKit Go.Lib
def numFaultOf (L : Nat) (x y : Int) : Int := if sizeFaultOf L y = 0 then faultOf L x y else sizeFaultOf L y
def numOf (l : List UInt8) (x y : Int) : Nat := if sizeFaultOf l.length y = 0 then leN ((getOf l x y).take 8) else 0
set_option maxHeartbeats 1000000 in
theorem num_any (v : Value) (l : List UInt8) (w : World) (hv : IsArg w v l) (x y : Int) (hl : l.length ≤ maxLen) :
 Calls Tryz.prog 90 #[.agg #[v], .int .i64 x, .int .i64 y] w fun e w' => e = .returned (.tuple #[.int .u64 (numOf l x y), .int .i64 (numFaultOf l.length x y)]) ∧ Below w.heap.size w w' := by
 obtain ⟨a, c, rfl, hq1⟩ := hv.shape
 clear hq1
 have HL := Lib.hid hl
 have HV := Lib.hid hv
 have HBA := Lib.hid ((Below.refl w.heap.size w).alloc (Nat.le_refl _) (.cells #[.slice a l.length c] 26))
 obtain ⟨s, hs⟩ : ∃ s, s = sizeFaultOf l.length y := ⟨_, rfl⟩
 unfold numOf numFaultOf
 rw [← hs]
 have HS := Lib.hid hs
 clear hl hv
 by_cases h0 : s = 0
 · rw [if_pos h0, if_pos h0]
   subst h0
   clear hs
   go_enter Tryz.func90, Tryz.ntmps90
   go_wp2_with fail
   refine (sizeFault_any _ _ _ HL.out _ _).mono ?_
   rintro e w1 ⟨rfl, hb⟩
   rw [← HS.out]
   have hcl := box_cell hb
   have HB1 := Lib.hid (HBA.out.trans (hb.mono (by simp)))
   clear hb
   go_wp2_with fail
   refine (get_any _ _ _ (HV.out.below HB1.out) _ _ HL.out).mono ?_
   rintro e w2 ⟨r, rfl, hr, hb⟩
   have HB2 := Lib.hid (HB1.out.trans (hb.mono HB1.out.size))
   have HR := Lib.hid (isBytes_of_owns hr)
   clear hr hb hcl
   go_wp2_with fail
   refine (fromLe_any _ _ _ HR.out).mono ?_
   rintro e w3 ⟨rfl, hb⟩
   have HB3 := Lib.hid (HB2.out.trans (hb.mono HB2.out.size))
   clear hb
   go_wp2
   go_ret2
   exact ⟨rfl, HB3.out⟩
 · rw [if_neg h0, if_neg h0]
   clear hs
   go_enter Tryz.func90, Tryz.ntmps90
   go_wp2_with fail
   refine (sizeFault_any _ _ _ HL.out _ _).mono ?_
   rintro e w1 ⟨rfl, hb⟩
   rw [← HS.out]
   have HB1 := Lib.hid (HBA.out.trans (hb.mono (by simp)))
   clear hb
   go_wp2
   go_ret2
   exact ⟨rfl, HB1.out⟩
end Go.Proofs.YtnmekbbnglkmcaaGreat
namespace Go.Proofs.YtnmekbbnglkmcaaGreat
open Go.RowKit Go.Lib
theorem count_set {l : List Bool} {i : Nat} (h : l[i]? = some false) : (l.set i true).count false + 1 = l.count false := by
 induction l generalizing i with
 | nil => simp at h
 | cons b r ih =>
   cases i with
   | zero =>
     simp at h
     subst h
     simp
   | succ i =>
     have h2 := ih (i := i) (by simpa using h)
     simp only [List.set_cons_succ, List.count_cons]
     omega
theorem ready_false {md : Region.Mode} {ops : Array Oper} {l : Array Bool} {i : Nat} (h : i ∈ Region.ready md ops l) : l.toList[i]? = some false := by
 rw [Region.ready, List.mem_filter] at h
 have h2 := h.2
 simp only [Bool.and_eq_true, Bool.not_eq_true'] at h2
 have h3 := h2.1
 rw [Array.getD_eq_getD_getElem?] at h3
 rw [Array.getElem?_toList]
 rcases hx : l[i]? with _ | b
 · rw [hx] at h3; cases h3
 · rw [hx] at h3; simp at h3; rw [h3]
theorem wpAny_inv {P : Program} {ops : Array Oper} {Q : Exit → Act → World → Prop} {md : Region.Mode} (I : Array Bool → Act → World → Prop)
 (hstep : ∀ l a w, I l a w → ∀ i ∈ Region.ready md ops l, wpOp P ops Q i (fun a' w' => I (l.setIfInBounds i true) a' w') a w)
 (hdone : ∀ l a w, I l a w → Region.ready md ops l = [] → Q .normal a w) :
 ∀ (fuel : Nat) (l : Array Bool) (a : Act) (w : World), I l a w → l.toList.count false ≤ fuel → wpAny P md ops Q fuel l a w
 | 0, l, a, w, hI, hc => by
   have hr : Region.ready md ops l = [] := by
    rcases hx : Region.ready md ops l with _ | ⟨i, r⟩
    · rfl
    · have h1 := count_set (ready_false (md := md) (ops := ops) (i := i) (by rw [hx]; simp))
      omega
   exact ⟨hr, hdone l a w hI hr⟩
 | fuel + 1, l, a, w, hI, hc => ⟨fun hr => hdone l a w hI hr, fun i hi => by
    have h1 := count_set (ready_false hi)
    refine wpOp_mono (fun a' w' h' => wpAny_inv I hstep hdone fuel _ a' w' h' ?_) (hstep l a w hI i hi)
    rw [Array.toList_setIfInBounds]
    omega⟩
def earlier (md : Region.Mode) (ops : Array Oper) : Bool := (List.range ops.size).all fun i => ((ops[i]?).map (·.after.all fun e => !Region.binds md e || decide (e.on < i))).getD true
theorem all_done {md : Region.Mode} {ops : Array Oper} {l : Array Bool} (he : earlier md ops = true) (hs : l.size = ops.size) (hr : Region.ready md ops l = []) : ∀ i, i < ops.size → l.getD i true = true := by
 intro i
 induction i using Nat.strongRecOn with
 | ind i ih =>
   intro hi
   rcases hb : l.getD i true with _ | _
   · exfalso
     have hmem : i ∈ Region.ready md ops l := by
      rw [Region.ready, List.mem_filter, List.mem_range]
      refine ⟨hi, ?_⟩
      rw [hb]
      obtain ⟨o, ho⟩ : ∃ o, ops[i]? = some o := ⟨ops[i], Array.getElem?_eq_getElem hi⟩
      unfold earlier at he
      rw [List.all_eq_true] at he
      have h1 := he i (List.mem_range.2 hi)
      rw [ho] at h1 ⊢
      simp only [Option.map_some, Option.getD_some, Bool.not_false, Bool.true_and] at h1 ⊢
      rw [Array.all_eq_true_iff_forall_mem] at h1 ⊢
      intro e hem
      have h1e := h1 e hem
      rcases hbd : Region.binds md e with _ | _
      · rfl
      rw [hbd] at h1e
      have h2 : e.on < i := of_decide_eq_true (by simpa using h1e)
      have h3 := ih e.on h2 (by omega)
      have h4 : l.getD e.on false = l.getD e.on true := by
       have h5 : e.on < l.size := by omega
       simp [h5]
      rw [h4, h3]
      rfl
     rw [hr] at hmem
     cases hmem
   · rfl
theorem wp_region_inv {P : Program} {ops : Array Oper} {Q : Exit → Act → World → Prop} {id : Nat} {a : Act} {w : World} (hm : P.follows .mixedOrders = true) (he : earlier .any ops = true) (I : Array Bool → Act → World → Prop)
 (h0 : I (Array.replicate ops.size false) a w.drew)
 (hsz : ∀ l a w, I l a w → l.size = ops.size)
 (hstep : ∀ l a w, I l a w → ∀ i ∈ Region.ready .any ops l, wpOp P ops Q i (fun a' w' => I (l.setIfInBounds i true) a' w') a w)
 (hdone : ∀ l a w, I l a w → (∀ i, i < ops.size → l.getD i true = true) → Q .normal a w) : (Code.region id ops true).wp P Q a w :=
 wp_region_any hm (wpAny_inv I hstep (fun l a w hI hr => hdone l a w hI (all_done he (hsz l a w hI) hr)) _ _ _ _ h0 (by simp))
theorem wp_region_rec {X : Type} {P : Program} {ops : Array Oper} {Q : Exit → Act → World → Prop} {id : Nat} {a : Act} {w : World} (hm : P.follows .mixedOrders = true) (he : earlier .any ops = true) (fl : X → Array Bool) (fa : X → Act) (J : X → World → Prop) (x0 : X)
 (hl0 : Array.replicate ops.size false = fl x0) (ha0 : a = fa x0) (h0 : J x0 w.drew)
 (hsz : ∀ x, (fl x).size = ops.size)
 (hstep : ∀ x w, J x w → ∀ i ∈ Region.ready .any ops (fl x), wpOp P ops Q i (fun a' w' => ∃ x', (fl x).setIfInBounds i true = fl x' ∧ a' = fa x' ∧ J x' w') (fa x) w)
 (hdone : ∀ x w, J x w → (∀ i, i < ops.size → (fl x).getD i true = true) → Q .normal (fa x) w) : (Code.region id ops true).wp P Q a w :=
 wp_region_inv hm he (fun l a w => ∃ x, l = fl x ∧ a = fa x ∧ J x w) ⟨x0, hl0, ha0, h0⟩
  (fun l a w ⟨x, hl, _, _⟩ => by rw [hl]; exact hsz x)
  (fun l a w ⟨x, hl, ha, hJ⟩ i hi => by
   subst hl
   subst ha
   exact hstep x w hJ i hi)
  (fun l a w ⟨x, hl, ha, hJ⟩ hall => by
   subst hl
   subst ha
   exact hdone x w hJ hall)
theorem inv_op {P : Program} {ops : Array Oper} {Q : Exit → Act → World → Prop} {i : Nat} {o : Oper} {I : Act → World → Prop} {a : Act} {w : World} (ho : ops[i]? = some o)
 (h : ∀ K' : Act → World → Prop, Shut (∀ a w, I a w → K' a w) → if Region.wanted o (yielded ops a.tmps) = true then Oper.wp P o a w K' Q else K' (a.put o.dst undef) w) : wpOp P ops Q i I a w :=
 wpOp_step ho (fun K' hK => h K' hK)
theorem Upd {a b r : Prop} (x : b) (h : a ∧ r) : b ∧ r := ⟨x, h.2⟩
theorem Nxt {a r s : Prop} (f : r → s) (h : a ∧ r) : a ∧ s := ⟨h.1, f h.2⟩
theorem Nx4 {a b c d r s : Prop} (f : r → s) (h : a ∧ b ∧ c ∧ d ∧ r) : a ∧ b ∧ c ∧ d ∧ s := Nxt (Nxt (Nxt (Nxt f))) h
theorem Nx16 {a0 a1 a2 a3 a4 a5 a6 a7 a8 a9 b0 b1 b2 b3 b4 b5 r s : Prop} (f : r → s) (h : a0 ∧ a1 ∧ a2 ∧ a3 ∧ a4 ∧ a5 ∧ a6 ∧ a7 ∧ a8 ∧ a9 ∧ b0 ∧ b1 ∧ b2 ∧ b3 ∧ b4 ∧ b5 ∧ r) : a0 ∧ a1 ∧ a2 ∧ a3 ∧ a4 ∧ a5 ∧ a6 ∧ a7 ∧ a8 ∧ a9 ∧ b0 ∧ b1 ∧ b2 ∧ b3 ∧ b4 ∧ b5 ∧ s := Nx4 (Nx4 (Nx4 (Nx4 f))) h
end Go.Proofs.YtnmekbbnglkmcaaGreat
namespace Go.Proofs.YtnmekbbnglkmcaaGreat
open Go.RowKit Go.Lib
theorem one_cell {W : World} {g : Nat} {v : Value} {t : TypeId} (h : W.heap[g]? = some (.cells #[v] t (0, 0))) : W.cell? ⟨g, 0, none⟩ = some v ∧ W.frozen? ⟨g, 0, none⟩ = false := by
 refine ⟨?_, ?_⟩
 · unfold World.cell?; rw [h]; rfl
 · unfold World.frozen?; rw [h]; rfl
theorem one_set {W : World} {g : Nat} {v : Value} {t : TypeId} {fr : Nat × Nat} (h : W.heap[g]? = some (.cells #[v] t fr)) (r : Value) : (W.setCell ⟨g, 0, none⟩ r).heap[g]? = some (.cells #[r] t fr) := by
 simp [World.setCell, Array.getElem?_modify, h]
theorem one_other {W : World} {g : Nat} {o : Obj} (h : W.heap[g]? = some o) (a : Addr) (r : Value) (hne : a.block ≠ g) : (W.setCell a r).heap[g]? = some o := by
 simp [World.setCell, Array.getElem?_modify, hne, h]
theorem second_row {w w1 : World} {u v : Value} {s t : TypeId} (hb : Below ((w.alloc (.cells #[u] s)).alloc (.cells #[v] t)).heap.size ((w.alloc (.cells #[u] s)).alloc (.cells #[v] t)) w1) :
 w1.heap[w.heap.size]? = some (.cells #[u] s) ∧ w1.heap[w.heap.size + 1]? = some (.cells #[v] t) := by
 have h0 := hb.block w.heap.size (by simp; omega)
 have h1 := hb.block (w.heap.size + 1) (by simp)
 have h2 : ((w.alloc (.cells #[u] s)).alloc (.cells #[v] t)).heap[w.heap.size + 1]? = some (.cells #[v] t) := by simpa using heap_alloc_new (w.alloc (.cells #[u] s)) (.cells #[v] t)
 have h3 : ((w.alloc (.cells #[u] s)).alloc (.cells #[v] t)).heap[w.heap.size]? = some (.cells #[u] s) := by
  rw [heap_alloc_old (w.alloc (.cells #[u] s)) _ (by simp)]
  exact heap_alloc_new w _
 exact ⟨h0.trans h3, h1.trans h2⟩
structure PutNumX where
 (b0 b1 b2 b3 b4 b5 b6 b7 b8 b9 : Bool)
 (s19 s20 s21 s22 s23 s24 s25 s26 s9 : Value)
set_option maxHeartbeats 4000000 in
set_option maxRecDepth 100000 in
theorem putNum_in (v : Value) (l : List UInt8) (w : World) (hv : IsArg w v l) (z : Int) (k n : Nat) (hk0 : 1 ≤ k) (hk8 : k ≤ 8) (hl : l.length ≤ 8192) :
 Calls Tryz.prog 107 #[.agg #[v], .int .i64 z, .int .i64 k, .int .u64 n] w fun e w' => ∃ r, e = .returned (.tuple #[.agg #[r], .int .i64 (faultOf l.length z k)]) ∧ Given w' w.heap.size v l r (putOf l z (leB n k)) ∧ Below w.heap.size w w' := by
 obtain ⟨a, c, hsh, _⟩ := hv.shape
 obtain ⟨N, hN⟩ : ∃ N, N = l.length := ⟨_, rfl⟩
 obtain ⟨F, hF⟩ : ∃ F, F = faultOf l.length z k := ⟨_, rfl⟩
 obtain ⟨G, hG⟩ : ∃ G, G = putOf l z (leB n k) := ⟨_, rfl⟩
 obtain ⟨B, hB⟩ : ∃ B, B = w.heap.size := ⟨_, rfl⟩
 rw [← hF, ← hG]
 rw [← hN] at hsh
 subst hsh
 have HV := Lib.hid hv
 have HLE := Lib.hid (show ∀ W, Calls Tryz.prog 117 #[.int .u64 n, .int .i64 k] W fun e w' => ∃ u, e = .returned u ∧ IsArg w' u (leB n k) ∧ Below W.heap.size W w' from
  fun W => (le_any n k k (clamped_of k hk8) W).mono fun e w' ⟨u, h1, h2, h3⟩ => ⟨u, h1, isArg_of_owns (l := leB n k) (by rw [leB_length]; exact h2), h3⟩)
 have HPUT := Lib.hid (show ∀ W, Below B w W → B + 2 ≤ W.heap.size → ∀ u, IsArg W u (leB n k) → Calls Tryz.prog 21 #[.agg #[.slice a N c], .int .i64 z, u] W fun e w' => ∃ r, e = .returned (.tuple #[.agg #[r], .int .i64 F]) ∧ Given w' (B + 2) (.slice a N c) l r G ∧ Below W.heap.size W w' from
  fun W hb hz u hu => (put_any _ l u (leB n k) W (hv.below (by rw [← hB]; exact hb)) hu z (by omega) (by rw [leB_length]; omega)).mono fun e w' ⟨r, h1, h2, h3⟩ => by
   rw [leB_length, ← hF] at h1
   rw [← hG] at h2
   exact ⟨r, h1, .inr (ownsRow_base h2 hz), h3⟩)
 have HBA := Lib.hid (((Below.refl w.heap.size w).alloc (Nat.le_refl _) (.cells #[.slice a N c] 26)).alloc (by simp) (.cells #[.slice none 0 0] 26))
 have HB := Lib.hid hB
 have HNL := Lib.hid (show N ≤ maxLen by unfold maxLen; omega)
 have HN := Lib.hid hN
 have HFF := Lib.hid hF
 have HGG := Lib.hid hG
 have HS := Lib.hid (show sizeFaultOf N k = 0 from by unfold sizeFaultOf; rw [if_pos (by omega), if_pos (by omega)])
 clear hv hl hN hF hG hk0 hk8 hB
 go_enter Tryz.func107, Tryz.ntmps107
 go_wp2_with fail
 refine (sizeFault_any _ _ _ HNL.out _ _).mono ?_
 rintro e W0 ⟨rfl, hb⟩
 rw [HS.out]
 have hrow := second_row hb
 have HW := Lib.hid (show Below B w W0 by rw [HB.out]; exact HBA.out.trans (hb.mono (by simp; omega)))
 have HZ := Lib.hid (show B + 2 ≤ W0.heap.size by have := hb.size; simp at this; rw [HB.out]; omega)
 rw [← HB.out] at hrow
 have HE := Lib.hid hrow.1
 have HN2 := Lib.hid hrow.2
 clear hb hrow
 go_upto_region 4 with fail
 rw [← HB.out]
 refine wp_region_rec (X := PutNumX) (by kernel_rfl) (by kernel_rfl) (fun x => #[x.b0, x.b1, x.b2, x.b3, x.b4, x.b5, x.b6, x.b7, x.b8, x.b9]) (fun x => { tmps := #[.agg #[.slice a N c], .int .i64 z, .int .i64 k, .int .u64 n, .pointer (some ⟨B, 0, none⟩), undef, undef, undef, .pointer (some ⟨B + 1, 0, none⟩), x.s9, .int .i64 0, .agg #[.slice a N c], .int .i64 k, .int .i64 0, .int .i64 0, .bool false, undef, undef, undef, x.s19, x.s20, x.s21, x.s22, x.s23, x.s24, x.s25, x.s26], defers := [] }) (fun x W => (x.b0 = true → x.s19 = .agg #[.slice a N c]) ∧ (x.b1 = true → x.s20 = .int .i64 z) ∧ (x.b2 = true → x.s21 = .int .u64 n) ∧ (x.b3 = true → x.s22 = .int .i64 k) ∧ (x.b7 = true → x.s26 = .int .i64 F) ∧ (x.b9 = true → x.s9 = .int .i64 F) ∧ (x.b5 = false → x.b4 = true → IsArg W x.s23 (leB n k)) ∧ (x.b5 = true → ∃ r, x.s24 = .tuple #[.agg #[r], .int .i64 F] ∧ Given W (B + 2) (.slice a N c) l r G) ∧ (x.b6 = true → ∃ r, x.s25 = .agg #[r] ∧ Given W (B + 2) (.slice a N c) l r G) ∧ (W.heap[B]? = some (.cells #[.slice a N c] 26 (0, 0))) ∧ (x.b8 = false → W.heap[B + 1]? = some (.cells #[.slice none 0 0] 26 (0, 0))) ∧ (x.b8 = true → ∃ r, W.heap[B + 1]? = some (.cells #[r] 26 (0, 0)) ∧ Given W (B + 2) (.slice a N c) l r G) ∧ (Below B w W) ∧ (B + 2 ≤ W.heap.size)) ⟨false, false, false, false, false, false, false, false, false, false, undef, undef, undef, undef, undef, undef, undef, undef, .int .i64 0⟩ rfl rfl ⟨(fun h => by cases h), (fun h => by cases h), (fun h => by cases h), (fun h => by cases h), (fun h => by cases h), (fun h => by cases h), (fun _ h => by cases h), (fun h => by cases h), (fun h => by cases h), HE.out, (fun _ => HN2.out), (fun h => by cases h), HW.out.drew, HZ.out⟩ (fun _ => rfl) ?hstep ?hdone
 case hstep =>
  rintro ⟨b0, b1, b2, b3, b4, b5, b6, b7, b8, b9, s19, s20, s21, s22, s23, s24, s25, s26, s9⟩ W hI i hi
  dsimp only at hI hi ⊢
  have HI := Lib.hid hI
  clear hI
  rw [Region.ready, List.mem_filter, List.mem_range] at hi
  obtain ⟨hlt, hp⟩ := hi
  have hi7 : i = 0 ∨ i = 1 ∨ i = 2 ∨ i = 3 ∨ i = 4 ∨ i = 5 ∨ i = 6 ∨ i = 7 ∨ i = 8 ∨ i = 9 := by simp at hlt; omega
  clear hlt
  rcases hi7 with rfl | rfl | rfl | rfl | rfl | rfl | rfl | rfl | rfl | rfl
  all_goals simp [Region.binds] at hp
  · obtain rfl : b0 = false := by revert hp; cases b0 <;> simp
    clear hp
    refine inv_op (o := ⟨some 19, _, _, _, _, _⟩) rfl (fun K' hK' => ?_)
    have gE := HI.out.2.2.2.2.2.2.2.2.2.1
    obtain ⟨hc1, hc2⟩ := one_cell gE
    go_simp
    exact hK'.out _ _ ⟨.mk .., rfl, rfl, (Upd (fun _ => rfl)) HI.out⟩
  · obtain rfl : b1 = false := by revert hp; cases b1 <;> simp
    clear hp
    refine inv_op (o := ⟨some 20, _, _, _, _, _⟩) rfl (fun K' hK' => ?_)
    go_simp
    exact hK'.out _ _ ⟨.mk .., rfl, rfl, Nxt (Upd (fun _ => rfl)) HI.out⟩
  · obtain rfl : b2 = false := by revert hp; cases b2 <;> simp
    clear hp
    refine inv_op (o := ⟨some 21, _, _, _, _, _⟩) rfl (fun K' hK' => ?_)
    go_simp
    exact hK'.out _ _ ⟨.mk .., rfl, rfl, Nxt (Nxt (Upd (fun _ => rfl))) HI.out⟩
  · obtain rfl : b3 = false := by revert hp; cases b3 <;> simp
    clear hp
    refine inv_op (o := ⟨some 22, _, _, _, _, _⟩) rfl (fun K' hK' => ?_)
    go_simp
    exact hK'.out _ _ ⟨.mk .., rfl, rfl, Nxt (Nxt (Nxt (Upd (fun _ => rfl)))) HI.out⟩
  · obtain ⟨rfl, e2, e3⟩ : b4 = false ∧ b2 = true ∧ b3 = true := by revert hp; cases b4 <;> cases b2 <;> cases b3 <;> simp
    clear hp
    obtain rfl := (HI.out.2.2.1) e2
    obtain rfl := (HI.out.2.2.2.1) e3
    refine inv_op (o := ⟨some 23, _, _, _, _, _⟩) rfl (fun K' hK' => ?_)
    go_simp
    refine (HLE.out W).mono ?_
    rintro e w1 ⟨u, rfl, hu, bn⟩
    obtain ⟨h0, h1, h2, h3, h7, h9, gL, gT, gR, gE, gN, gS, gW, gZ⟩ := HI.out
    exact hK'.out _ _ ⟨.mk .., rfl, rfl, h0, h1, h2, h3, h7, h9, (fun _ _ => hu), (fun h => by obtain ⟨r, h1, h2⟩ := gT h; exact ⟨r, h1, h2.below bn⟩), (fun h => by obtain ⟨r, h1, h2⟩ := gR h; exact ⟨r, h1, h2.below bn⟩), ((bn.block _ (Array.getElem?_eq_some_iff.1 gE).1).trans gE), (fun h => (bn.block _ (Array.getElem?_eq_some_iff.1 (gN h)).1).trans (gN h)), (fun h => by obtain ⟨r, h1, h2⟩ := gS h; exact ⟨r, (bn.block _ (Array.getElem?_eq_some_iff.1 h1).1).trans h1, h2.below bn⟩), (gW.trans (bn.mono (by omega))), (Nat.le_trans gZ bn.size)⟩
  · have hn5 : b5 = false := by revert hp; cases b5 <;> simp
    have e0 : b0 = true := by revert hp; cases b0 <;> simp
    have e1 : b1 = true := by revert hp; cases b1 <;> simp
    have e4 : b4 = true := by revert hp; cases b4 <;> simp
    clear hp
    obtain rfl := (HI.out.1) e0
    obtain rfl := (HI.out.2.1) e1
    subst hn5
    refine inv_op (o := ⟨some 24, _, _, _, _, _⟩) rfl (fun K' hK' => ?_)
    have gL := HI.out.2.2.2.2.2.2.1
    have gW := HI.out.2.2.2.2.2.2.2.2.2.2.2.2.1
    have gZ := HI.out.2.2.2.2.2.2.2.2.2.2.2.2.2
    have hu := gL rfl e4
    go_simp
    refine (HPUT.out W gW gZ _ hu).mono ?_
    rintro e w1 ⟨r9, rfl, hr9, bn⟩
    obtain ⟨h0, h1, h2, h3, h7, h9, gL, gT, gR, gE, gN, gS, gW, gZ⟩ := HI.out
    exact hK'.out _ _ ⟨.mk .., rfl, rfl, h0, h1, h2, h3, h7, h9, (fun h => by cases h), (fun _ => ⟨r9, rfl, hr9⟩), (fun h => by obtain ⟨r, h1, h2⟩ := gR h; exact ⟨r, h1, h2.below bn⟩), ((bn.block _ (Array.getElem?_eq_some_iff.1 gE).1).trans gE), (fun h => (bn.block _ (Array.getElem?_eq_some_iff.1 (gN h)).1).trans (gN h)), (fun h => by obtain ⟨r, h1, h2⟩ := gS h; exact ⟨r, (bn.block _ (Array.getElem?_eq_some_iff.1 h1).1).trans h1, h2.below bn⟩), (gW.trans (bn.mono (by omega))), (Nat.le_trans gZ bn.size)⟩
  · obtain ⟨rfl, e5⟩ : b6 = false ∧ b5 = true := by revert hp; cases b6 <;> cases b5 <;> simp
    clear hp
    refine inv_op (o := ⟨some 25, _, _, _, _, _⟩) rfl (fun K' hK' => ?_)
    have gT := HI.out.2.2.2.2.2.2.2.1
    obtain ⟨r9, hs9, hr9⟩ := gT e5
    subst hs9
    go_simp
    exact hK'.out _ _ ⟨.mk .., rfl, rfl, Nx4 (Nx4 (Upd (fun _ => ⟨r9, rfl, hr9⟩))) HI.out⟩
  · obtain ⟨rfl, e5⟩ : b7 = false ∧ b5 = true := by revert hp; cases b7 <;> cases b5 <;> simp
    clear hp
    refine inv_op (o := ⟨some 26, _, _, _, _, _⟩) rfl (fun K' hK' => ?_)
    have gT := HI.out.2.2.2.2.2.2.2.1
    obtain ⟨r9, hs9, hr9⟩ := gT e5
    subst hs9
    go_simp
    exact hK'.out _ _ ⟨.mk .., rfl, rfl, Nx4 (Upd (fun _ => rfl)) HI.out⟩
  · obtain ⟨rfl, e5, e6⟩ : b8 = false ∧ b5 = true ∧ b6 = true := by revert hp; cases b8 <;> cases b5 <;> cases b6 <;> simp
    clear hp
    refine inv_op (o := ⟨none, _, _, _, _, _⟩) rfl (fun K' hK' => ?_)
    have gR := HI.out.2.2.2.2.2.2.2.2.1
    have gN := HI.out.2.2.2.2.2.2.2.2.2.2.1
    obtain ⟨r9, hs9, hr9⟩ := gR e6
    subst hs9
    obtain ⟨ra, rn, rc, hsh⟩ := hr9.shape HV.out
    subst hsh
    have hN := gN rfl
    obtain ⟨hc1, hc2⟩ := one_cell hN
    go_simp
    obtain ⟨h0, h1, h2, h3, h7, h9, gL, gT, gR, gE, gN, gS, gW, gZ⟩ := HI.out
    exact hK'.out _ _ ⟨.mk .., rfl, rfl, h0, h1, h2, h3, h7, h9, (fun h => by rw [e5] at h; cases h), (fun h => by obtain ⟨r, h1, h2⟩ := gT h; exact ⟨r, h1, h2.set _ _ (by show B + 1 < B + 2; omega)⟩), (fun _ => ⟨_, rfl, hr9.set _ _ (by show B + 1 < B + 2; omega)⟩), (one_other gE _ _ (by show B + 1 ≠ B; omega)), (fun h => by cases h), (fun _ => ⟨_, one_set hN _, hr9.set _ _ (by show B + 1 < B + 2; omega)⟩), (gW.setCell (show B ≤ B + 1 by omega) _), (by simpa [World.setCell] using gZ)⟩
  · obtain ⟨rfl, e7⟩ : b9 = false ∧ b7 = true := by revert hp; cases b9 <;> cases b7 <;> simp
    clear hp
    obtain rfl := (HI.out.2.2.2.2.1) e7
    refine inv_op (o := ⟨some 9, _, _, _, _, _⟩) rfl (fun K' hK' => ?_)
    go_simp
    exact hK'.out _ _ ⟨.mk .., rfl, rfl, Nxt (Nx4 (Upd (fun _ => rfl))) HI.out⟩
 case hdone =>
  rintro ⟨b0, b1, b2, b3, b4, b5, b6, b7, b8, b9, s19, s20, s21, s22, s23, s24, s25, s26, s9⟩ W hI hall
  dsimp only at hI hall ⊢
  have HI := Lib.hid hI
  clear hI
  obtain rfl : b8 = true := hall 8 (by decide)
  obtain rfl : b9 = true := hall 9 (by decide)
  obtain rfl := (HI.out.2.2.2.2.2.1) rfl
  have gS := HI.out.2.2.2.2.2.2.2.2.2.2.2.1
  have gW := HI.out.2.2.2.2.2.2.2.2.2.2.2.2.1
  clear HI hall
  obtain ⟨r, hr1, hr2⟩ := gS rfl
  have hc := (one_cell hr1).1
  obtain ⟨ra, rn, rc, hsh⟩ := hr2.shape HV.out
  subst hsh
  have HR2 := Lib.hid (hr2.base (show B ≤ B + 2 by omega))
  have HW2 := Lib.hid gW
  clear gS gW hr1 hr2
  go_wp2
  refine bodyPost_ret (v := .tuple #[.agg #[.slice ra rn rc], .int .i64 F]) (by simp [results, Tryz.results107, go_sem, hc]) rfl ⟨_, rfl, ?_, ?_⟩
  · rw [← HB.out]; exact HR2.out
  · rw [← HB.out]; exact HW2.out
structure RefPutNumX where
 (b0 b1 b2 b3 b4 b5 b6 b7 b8 b9 : Bool)
 (s21 s22 s23 s24 s25 s26 s27 s28 s9 : Value)
set_option maxHeartbeats 4000000 in
set_option maxRecDepth 100000 in
theorem refPutNum_in (v : Value) (l : List UInt8) (w : World) (hv : IsArg w v l) (z : Int) (k n : Nat) (hk0 : 1 ≤ k) (hk8 : k ≤ 8) (hn : n < 18446744073709551616) (hl : l.length ≤ 8192) :
 Calls Tryz.prog 73 #[.agg #[v], .int .i64 z, .int .i64 k, .int .u64 n] w fun e w' => ∃ r, e = .returned (.tuple #[.agg #[r], .int .i64 (faultOf l.length z k)]) ∧ Given w' w.heap.size v l r (putOf l z (leB n k)) ∧ Below w.heap.size w w' := by
 obtain ⟨a, c, hsh, _⟩ := hv.shape
 obtain ⟨N, hN⟩ : ∃ N, N = l.length := ⟨_, rfl⟩
 obtain ⟨F, hF⟩ : ∃ F, F = faultOf l.length z k := ⟨_, rfl⟩
 obtain ⟨G, hG⟩ : ∃ G, G = putOf l z (leB n k) := ⟨_, rfl⟩
 obtain ⟨B, hB⟩ : ∃ B, B = w.heap.size := ⟨_, rfl⟩
 rw [← hF, ← hG]
 rw [← hN] at hsh
 subst hsh
 have HV := Lib.hid hv
 have HLE := Lib.hid (show ∀ W, Calls Tryz.prog 93 #[.int .u64 n, .int .i64 k] W fun e w' => ∃ u, e = .returned u ∧ IsArg w' u (leB n k) ∧ Below W.heap.size W w' from
  fun W => (refLe_any n k k (clamped_of k hk8) hn W).mono fun e w' ⟨u, h1, h2, h3⟩ => ⟨u, h1, isArg_of_owns (l := leB n k) (by rw [leB_length]; exact h2), h3⟩)
 have HPUT := Lib.hid (show ∀ W, Below B w W → B + 2 ≤ W.heap.size → ∀ u, IsArg W u (leB n k) → Calls Tryz.prog 92 #[.agg #[.slice a N c], .int .i64 z, u] W fun e w' => ∃ r, e = .returned (.tuple #[.agg #[r], .int .i64 F]) ∧ Given w' (B + 2) (.slice a N c) l r G ∧ Below W.heap.size W w' from
  fun W hb hz u hu => (refPut_any _ l u (leB n k) W (hv.below (by rw [← hB]; exact hb)) hu z (by omega) (by rw [leB_length]; omega)).mono fun e w' ⟨r, h1, h2, h3⟩ => by
   rw [leB_length, ← hF] at h1
   rw [← hG] at h2
   exact ⟨r, h1, h2.base hz, h3⟩)
 have HBA := Lib.hid (((Below.refl w.heap.size w).alloc (Nat.le_refl _) (.cells #[.slice a N c] 26)).alloc (by simp) (.cells #[.slice none 0 0] 26))
 have HB := Lib.hid hB
 have HNL := Lib.hid (show N ≤ maxLen by unfold maxLen; omega)
 have HN := Lib.hid hN
 have HFF := Lib.hid hF
 have HGG := Lib.hid hG
 have HC := Lib.hid (show true = decide (N ≤ 8192) from (decide_eq_true (by omega)).symm)
 have hk1 : ¬ ((k : Int) < 1) := by omega
 have hk9 : ¬ ((8 : Int) < (k : Int)) := by omega
 clear hv hl hN hF hG hn hB
 go_enter Tryz.func73, Tryz.ntmps73
 go_wp2_with fail
 refine (refCheck_any _ _ _ HNL.out _ HC.out _).mono ?_
 rintro e W0 ⟨rfl, hb⟩
 have hrow := second_row hb
 have HW := Lib.hid (show Below B w W0 by rw [HB.out]; exact HBA.out.trans (hb.mono (by simp; omega)))
 have HZ := Lib.hid (show B + 2 ≤ W0.heap.size by have := hb.size; simp at this; rw [HB.out]; omega)
 rw [← HB.out] at hrow
 have HE := Lib.hid hrow.1
 have HN2 := Lib.hid hrow.2
 clear hb hrow
 go_upto_region 5 with fail
 clear hk1 hk9 hk0 hk8
 generalize decide ((k : Int) < 1) = d1
 generalize decide ((8 : Int) < (k : Int)) = d2
 generalize (d1 || d2) = d3
 rw [← HB.out]
 refine wp_region_rec (X := RefPutNumX) (by kernel_rfl) (by kernel_rfl) (fun x => #[x.b0, x.b1, x.b2, x.b3, x.b4, x.b5, x.b6, x.b7, x.b8, x.b9]) (fun x => { tmps := #[.agg #[.slice a N c], .int .i64 z, .int .i64 k, .int .u64 n, .pointer (some ⟨B, 0, none⟩), undef, undef, undef, .pointer (some ⟨B + 1, 0, none⟩), x.s9, .agg #[.slice a N c], .bool true, .bool false, undef, .int .i64 k, .bool d1, .bool d1, .int .i64 k, .bool d2, .bool d3, undef, x.s21, x.s22, x.s23, x.s24, x.s25, x.s26, x.s27, x.s28], defers := [] }) (fun x W => (x.b0 = true → x.s21 = .agg #[.slice a N c]) ∧ (x.b1 = true → x.s22 = .int .i64 z) ∧ (x.b2 = true → x.s23 = .int .u64 n) ∧ (x.b3 = true → x.s24 = .int .i64 k) ∧ (x.b7 = true → x.s28 = .int .i64 F) ∧ (x.b9 = true → x.s9 = .int .i64 F) ∧ (x.b5 = false → x.b4 = true → IsArg W x.s25 (leB n k)) ∧ (x.b5 = true → ∃ r, x.s26 = .tuple #[.agg #[r], .int .i64 F] ∧ Given W (B + 2) (.slice a N c) l r G) ∧ (x.b6 = true → ∃ r, x.s27 = .agg #[r] ∧ Given W (B + 2) (.slice a N c) l r G) ∧ (W.heap[B]? = some (.cells #[.slice a N c] 26 (0, 0))) ∧ (x.b8 = false → W.heap[B + 1]? = some (.cells #[.slice none 0 0] 26 (0, 0))) ∧ (x.b8 = true → ∃ r, W.heap[B + 1]? = some (.cells #[r] 26 (0, 0)) ∧ Given W (B + 2) (.slice a N c) l r G) ∧ (Below B w W) ∧ (B + 2 ≤ W.heap.size)) ⟨false, false, false, false, false, false, false, false, false, false, undef, undef, undef, undef, undef, undef, undef, undef, .int .i64 0⟩ rfl rfl ⟨(fun h => by cases h), (fun h => by cases h), (fun h => by cases h), (fun h => by cases h), (fun h => by cases h), (fun h => by cases h), (fun _ h => by cases h), (fun h => by cases h), (fun h => by cases h), HE.out, (fun _ => HN2.out), (fun h => by cases h), HW.out.drew, HZ.out⟩ (fun _ => rfl) ?hstep ?hdone
 case hstep =>
  rintro ⟨b0, b1, b2, b3, b4, b5, b6, b7, b8, b9, s21, s22, s23, s24, s25, s26, s27, s28, s9⟩ W hI i hi
  dsimp only at hI hi ⊢
  have HI := Lib.hid hI
  clear hI
  rw [Region.ready, List.mem_filter, List.mem_range] at hi
  obtain ⟨hlt, hp⟩ := hi
  have hi7 : i = 0 ∨ i = 1 ∨ i = 2 ∨ i = 3 ∨ i = 4 ∨ i = 5 ∨ i = 6 ∨ i = 7 ∨ i = 8 ∨ i = 9 := by simp at hlt; omega
  clear hlt
  rcases hi7 with rfl | rfl | rfl | rfl | rfl | rfl | rfl | rfl | rfl | rfl
  all_goals simp [Region.binds] at hp
  · obtain rfl : b0 = false := by revert hp; cases b0 <;> simp
    clear hp
    refine inv_op (o := ⟨some 21, _, _, _, _, _⟩) rfl (fun K' hK' => ?_)
    have gE := HI.out.2.2.2.2.2.2.2.2.2.1
    obtain ⟨hc1, hc2⟩ := one_cell gE
    go_simp
    exact hK'.out _ _ ⟨.mk .., rfl, rfl, (Upd (fun _ => rfl)) HI.out⟩
  · obtain rfl : b1 = false := by revert hp; cases b1 <;> simp
    clear hp
    refine inv_op (o := ⟨some 22, _, _, _, _, _⟩) rfl (fun K' hK' => ?_)
    go_simp
    exact hK'.out _ _ ⟨.mk .., rfl, rfl, Nxt (Upd (fun _ => rfl)) HI.out⟩
  · obtain rfl : b2 = false := by revert hp; cases b2 <;> simp
    clear hp
    refine inv_op (o := ⟨some 23, _, _, _, _, _⟩) rfl (fun K' hK' => ?_)
    go_simp
    exact hK'.out _ _ ⟨.mk .., rfl, rfl, Nxt (Nxt (Upd (fun _ => rfl))) HI.out⟩
  · obtain rfl : b3 = false := by revert hp; cases b3 <;> simp
    clear hp
    refine inv_op (o := ⟨some 24, _, _, _, _, _⟩) rfl (fun K' hK' => ?_)
    go_simp
    exact hK'.out _ _ ⟨.mk .., rfl, rfl, Nxt (Nxt (Nxt (Upd (fun _ => rfl)))) HI.out⟩
  · obtain ⟨rfl, e2, e3⟩ : b4 = false ∧ b2 = true ∧ b3 = true := by revert hp; cases b4 <;> cases b2 <;> cases b3 <;> simp
    clear hp
    obtain rfl := (HI.out.2.2.1) e2
    obtain rfl := (HI.out.2.2.2.1) e3
    refine inv_op (o := ⟨some 25, _, _, _, _, _⟩) rfl (fun K' hK' => ?_)
    go_simp
    refine (HLE.out W).mono ?_
    rintro e w1 ⟨u, rfl, hu, bn⟩
    obtain ⟨h0, h1, h2, h3, h7, h9, gL, gT, gR, gE, gN, gS, gW, gZ⟩ := HI.out
    exact hK'.out _ _ ⟨.mk .., rfl, rfl, h0, h1, h2, h3, h7, h9, (fun _ _ => hu), (fun h => by obtain ⟨r, h1, h2⟩ := gT h; exact ⟨r, h1, h2.below bn⟩), (fun h => by obtain ⟨r, h1, h2⟩ := gR h; exact ⟨r, h1, h2.below bn⟩), ((bn.block _ (Array.getElem?_eq_some_iff.1 gE).1).trans gE), (fun h => (bn.block _ (Array.getElem?_eq_some_iff.1 (gN h)).1).trans (gN h)), (fun h => by obtain ⟨r, h1, h2⟩ := gS h; exact ⟨r, (bn.block _ (Array.getElem?_eq_some_iff.1 h1).1).trans h1, h2.below bn⟩), (gW.trans (bn.mono (by omega))), (Nat.le_trans gZ bn.size)⟩
  · have hn5 : b5 = false := by revert hp; cases b5 <;> simp
    have e0 : b0 = true := by revert hp; cases b0 <;> simp
    have e1 : b1 = true := by revert hp; cases b1 <;> simp
    have e4 : b4 = true := by revert hp; cases b4 <;> simp
    clear hp
    obtain rfl := (HI.out.1) e0
    obtain rfl := (HI.out.2.1) e1
    subst hn5
    refine inv_op (o := ⟨some 26, _, _, _, _, _⟩) rfl (fun K' hK' => ?_)
    have gL := HI.out.2.2.2.2.2.2.1
    have gW := HI.out.2.2.2.2.2.2.2.2.2.2.2.2.1
    have gZ := HI.out.2.2.2.2.2.2.2.2.2.2.2.2.2
    have hu := gL rfl e4
    go_simp
    refine (HPUT.out W gW gZ _ hu).mono ?_
    rintro e w1 ⟨r9, rfl, hr9, bn⟩
    obtain ⟨h0, h1, h2, h3, h7, h9, gL, gT, gR, gE, gN, gS, gW, gZ⟩ := HI.out
    exact hK'.out _ _ ⟨.mk .., rfl, rfl, h0, h1, h2, h3, h7, h9, (fun h => by cases h), (fun _ => ⟨r9, rfl, hr9⟩), (fun h => by obtain ⟨r, h1, h2⟩ := gR h; exact ⟨r, h1, h2.below bn⟩), ((bn.block _ (Array.getElem?_eq_some_iff.1 gE).1).trans gE), (fun h => (bn.block _ (Array.getElem?_eq_some_iff.1 (gN h)).1).trans (gN h)), (fun h => by obtain ⟨r, h1, h2⟩ := gS h; exact ⟨r, (bn.block _ (Array.getElem?_eq_some_iff.1 h1).1).trans h1, h2.below bn⟩), (gW.trans (bn.mono (by omega))), (Nat.le_trans gZ bn.size)⟩
  · obtain ⟨rfl, e5⟩ : b6 = false ∧ b5 = true := by revert hp; cases b6 <;> cases b5 <;> simp
    clear hp
    refine inv_op (o := ⟨some 27, _, _, _, _, _⟩) rfl (fun K' hK' => ?_)
    have gT := HI.out.2.2.2.2.2.2.2.1
    obtain ⟨r9, hs9, hr9⟩ := gT e5
    subst hs9
    go_simp
    exact hK'.out _ _ ⟨.mk .., rfl, rfl, Nx4 (Nx4 (Upd (fun _ => ⟨r9, rfl, hr9⟩))) HI.out⟩
  · obtain ⟨rfl, e5⟩ : b7 = false ∧ b5 = true := by revert hp; cases b7 <;> cases b5 <;> simp
    clear hp
    refine inv_op (o := ⟨some 28, _, _, _, _, _⟩) rfl (fun K' hK' => ?_)
    have gT := HI.out.2.2.2.2.2.2.2.1
    obtain ⟨r9, hs9, hr9⟩ := gT e5
    subst hs9
    go_simp
    exact hK'.out _ _ ⟨.mk .., rfl, rfl, Nx4 (Upd (fun _ => rfl)) HI.out⟩
  · obtain ⟨rfl, e5, e6⟩ : b8 = false ∧ b5 = true ∧ b6 = true := by revert hp; cases b8 <;> cases b5 <;> cases b6 <;> simp
    clear hp
    refine inv_op (o := ⟨none, _, _, _, _, _⟩) rfl (fun K' hK' => ?_)
    have gR := HI.out.2.2.2.2.2.2.2.2.1
    have gN := HI.out.2.2.2.2.2.2.2.2.2.2.1
    obtain ⟨r9, hs9, hr9⟩ := gR e6
    subst hs9
    obtain ⟨ra, rn, rc, hsh⟩ := hr9.shape HV.out
    subst hsh
    have hN := gN rfl
    obtain ⟨hc1, hc2⟩ := one_cell hN
    go_simp
    obtain ⟨h0, h1, h2, h3, h7, h9, gL, gT, gR, gE, gN, gS, gW, gZ⟩ := HI.out
    exact hK'.out _ _ ⟨.mk .., rfl, rfl, h0, h1, h2, h3, h7, h9, (fun h => by rw [e5] at h; cases h), (fun h => by obtain ⟨r, h1, h2⟩ := gT h; exact ⟨r, h1, h2.set _ _ (by show B + 1 < B + 2; omega)⟩), (fun _ => ⟨_, rfl, hr9.set _ _ (by show B + 1 < B + 2; omega)⟩), (one_other gE _ _ (by show B + 1 ≠ B; omega)), (fun h => by cases h), (fun _ => ⟨_, one_set hN _, hr9.set _ _ (by show B + 1 < B + 2; omega)⟩), (gW.setCell (show B ≤ B + 1 by omega) _), (by simpa [World.setCell] using gZ)⟩
  · obtain ⟨rfl, e7⟩ : b9 = false ∧ b7 = true := by revert hp; cases b9 <;> cases b7 <;> simp
    clear hp
    obtain rfl := (HI.out.2.2.2.2.1) e7
    refine inv_op (o := ⟨some 9, _, _, _, _, _⟩) rfl (fun K' hK' => ?_)
    go_simp
    exact hK'.out _ _ ⟨.mk .., rfl, rfl, Nxt (Nx4 (Upd (fun _ => rfl))) HI.out⟩
 case hdone =>
  rintro ⟨b0, b1, b2, b3, b4, b5, b6, b7, b8, b9, s21, s22, s23, s24, s25, s26, s27, s28, s9⟩ W hI hall
  dsimp only at hI hall ⊢
  have HI := Lib.hid hI
  clear hI
  obtain rfl : b8 = true := hall 8 (by decide)
  obtain rfl : b9 = true := hall 9 (by decide)
  obtain rfl := (HI.out.2.2.2.2.2.1) rfl
  have gS := HI.out.2.2.2.2.2.2.2.2.2.2.2.1
  have gW := HI.out.2.2.2.2.2.2.2.2.2.2.2.2.1
  clear HI hall
  obtain ⟨r, hr1, hr2⟩ := gS rfl
  have hc := (one_cell hr1).1
  obtain ⟨ra, rn, rc, hsh⟩ := hr2.shape HV.out
  subst hsh
  have HR2 := Lib.hid (hr2.base (show B ≤ B + 2 by omega))
  have HW2 := Lib.hid gW
  clear gS gW hr1 hr2
  go_wp2
  refine bodyPost_ret (v := .tuple #[.agg #[.slice ra rn rc], .int .i64 F]) (by simp [results, Tryz.results73, go_sem, hc]) rfl ⟨_, rfl, ?_, ?_⟩
  · rw [← HB.out]; exact HR2.out
  · rw [← HB.out]; exact HW2.out
def putNumOf (l : List UInt8) (x y : Int) (n : Nat) : List UInt8 := if sizeFaultOf l.length y = 0 then putOf l x (leB n y.toNat) else l
set_option maxHeartbeats 1000000 in
theorem putNum_any (v : Value) (l : List UInt8) (w : World) (hv : IsArg w v l) (x y : Int) (n : Nat) (hl : l.length ≤ 140737488355328) :
 Calls Tryz.prog 107 #[.agg #[v], .int .i64 x, .int .i64 y, .int .u64 n] w fun e w' => ∃ r, e = .returned (.tuple #[.agg #[r], .int .i64 (numFaultOf l.length x y)]) ∧ Given w' w.heap.size v l r (putNumOf l x y n) ∧ Below w.heap.size w w' := by
 by_cases h0 : sizeFaultOf l.length y = 0
 · obtain ⟨h1, h2, h3⟩ : l.length ≤ 8192 ∧ 1 ≤ y ∧ y ≤ 8 := by
    rcases size_cases l.length y with ⟨h, _⟩ | ⟨h, _⟩ | ⟨_, h⟩
    · omega
    · omega
    · exact h
   obtain ⟨k, rfl⟩ := Int.eq_ofNat_of_zero_le (show 0 ≤ y by omega)
   unfold numFaultOf putNumOf
   rw [if_pos h0, if_pos h0, Int.toNat_natCast]
   exact putNum_in v l w hv x k n (by omega) (by omega) h1
 · unfold numFaultOf putNumOf
   rw [if_neg h0, if_neg h0]
   obtain ⟨a, c, rfl, hq⟩ := hv.shape
   obtain ⟨s, hs⟩ : ∃ s, s = sizeFaultOf l.length y := ⟨_, rfl⟩
   rw [← hs] at h0
   rw [← hs]
   have HS := Lib.hid hs
   have HV := Lib.hid hv
   have HL := Lib.hid hl
   have HNL := Lib.hid (show l.length ≤ maxLen by unfold maxLen; omega)
   have HBA := Lib.hid (((Below.refl w.heap.size w).alloc (Nat.le_refl _) (.cells #[.slice a l.length c] 26)).alloc (by simp) (.cells #[.slice none 0 0] 26))
   clear hs hv hl hq
   go_enter Tryz.func107, Tryz.ntmps107
   go_wp2_with fail
   refine (sizeFault_any _ _ _ HNL.out _ _).mono ?_
   rintro e w1 ⟨rfl, hb⟩
   rw [← HS.out]
   have HB1 := Lib.hid hb
   have HB1w := Lib.hid (HBA.out.trans (hb.mono (by simp; omega)))
   have hcl := (second_box hb).1
   clear hb
   go_wp2_with fail
   refine (same_any _ _ _ (HV.out.below HB1w.out) HL.out).mono ?_
   rintro e w2 ⟨r, rfl, hr, hb⟩
   have HB2 := Lib.hid (HB1.out.trans (hb.mono HB1.out.size))
   have HB2w := Lib.hid (HBA.out.trans (HB2.out.mono (by simp; omega)))
   have HR := Lib.hid hr
   obtain ⟨_, hold, hfz, hlt⟩ := second_box HB2.out
   obtain ⟨ra, rc, rfl, _⟩ := (isArg_of_owns hr).shape
   clear hr hb hcl
   go_wp2
   refine bodyPost_ret (v := .tuple #[.agg #[.slice ra l.length rc], .int .i64 s]) (by simp [results, Tryz.results107, go_sem, hold]) rfl ⟨_, rfl, ?_, ?_⟩
   · exact .inr (ownsRow_base (ownsRow_set HR.out _ _ (by have := HB1.out.size; simp at this ⊢; omega)) HB1w.out.size)
   · exact HB2w.out.setCell (by simp) _
set_option maxHeartbeats 1000000 in
theorem refPutNum_any (v : Value) (l : List UInt8) (w : World) (hv : IsArg w v l) (x y : Int) (n : Nat) (hn : n < 18446744073709551616) (hl : l.length ≤ 140737488355328) :
 Calls Tryz.prog 73 #[.agg #[v], .int .i64 x, .int .i64 y, .int .u64 n] w fun e w' => ∃ r, e = .returned (.tuple #[.agg #[r], .int .i64 (numFaultOf l.length x y)]) ∧ Given w' w.heap.size v l r (putNumOf l x y n) ∧ Below w.heap.size w w' := by
 rcases size_cases l.length y with ⟨h0, h1⟩ | ⟨h0, h1, h2⟩ | ⟨h0, h1, h2, h3⟩
 · unfold numFaultOf putNumOf
   rw [h0, if_neg (by decide), if_neg (by decide)]
   obtain ⟨a, c, rfl, hq⟩ := hv.shape
   have HC := Lib.hid (show false = decide (l.length ≤ 8192) from (decide_eq_false (by omega)).symm)
   have HNL := Lib.hid (show l.length ≤ maxLen by unfold maxLen; omega)
   have HBA := Lib.hid (((Below.refl w.heap.size w).alloc (Nat.le_refl _) (.cells #[.slice a l.length c] 26)).alloc (by simp) (.cells #[.slice none 0 0] 26))
   clear hv hl hq h0 h1 hn
   go_enter Tryz.func73, Tryz.ntmps73
   go_wp2_with fail
   refine (refCheck_any _ _ _ HNL.out _ HC.out _).mono ?_
   rintro e w1 ⟨rfl, hb⟩
   have HB1w := Lib.hid (HBA.out.trans (hb.mono (by simp; omega)))
   obtain ⟨hcl, hold, hfz, hlt⟩ := second_box hb
   clear hb
   go_wp2
   refine bodyPost_ret (v := .tuple #[.agg #[.slice a l.length c], .int .i64 3]) (by simp [results, Tryz.results73, go_sem, hold]) rfl ⟨_, rfl, .inl ⟨rfl, rfl⟩, ?_⟩
   exact HB1w.out.setCell (by simp) _
 · unfold numFaultOf putNumOf
   rw [h0, if_neg (by decide), if_neg (by decide)]
   obtain ⟨a, c, rfl, hq⟩ := hv.shape
   have HC := Lib.hid (show true = decide (l.length ≤ 8192) from (decide_eq_true (by omega)).symm)
   have HNL := Lib.hid (show l.length ≤ maxLen by unfold maxLen; omega)
   have HBA := Lib.hid (((Below.refl w.heap.size w).alloc (Nat.le_refl _) (.cells #[.slice a l.length c] 26)).alloc (by simp) (.cells #[.slice none 0 0] 26))
   have h3 : y < 1 ∨ (1 ≤ y ∧ 8 < y) := by omega
   clear hv hl hq h0 h1 hn h2
   rcases h3 with h3 | ⟨h3, h4⟩
   all_goals (
    go_enter Tryz.func73, Tryz.ntmps73
    go_wp2_with fail
    refine (refCheck_any _ _ _ HNL.out _ HC.out _).mono ?_
    rintro e w1 ⟨rfl, hb⟩
    have HB1w := Lib.hid (HBA.out.trans (hb.mono (by simp; omega)))
    obtain ⟨hcl, hold, hfz, hlt⟩ := second_box hb
    clear hb
    go_wp2
    refine bodyPost_ret (v := .tuple #[.agg #[.slice a l.length c], .int .i64 2]) (by simp [results, Tryz.results73, go_sem, hold]) rfl ⟨_, rfl, .inl ⟨rfl, rfl⟩, ?_⟩
    exact HB1w.out.setCell (by simp) _)
 · obtain ⟨k, rfl⟩ := Int.eq_ofNat_of_zero_le (show 0 ≤ y by omega)
   unfold numFaultOf putNumOf
   rw [if_pos h0, if_pos h0, Int.toNat_natCast]
   exact refPutNum_in v l w hv x k n (by omega) (by omega) hn h1
end Go.Proofs.YtnmekbbnglkmcaaGreat
namespace Go.Proofs.YtnmekbbnglkmcaaGreat
open Go.RowKit Go.Lib
theorem row_keep {w w' : World} {g : Nat} {o : Obj} (h : w.heap[g]? = some o) (hb : Below w.heap.size w w') : w'.heap[g]? = some o := (hb.block g (Array.getElem?_eq_some_iff.1 h).1).trans h
theorem cells_two {X : World} {r : Nat} {a b : Value} {t : TypeId} (h : X.heap[r]? = some (.cells #[a, b] t (0, 0))) : X.cell? ⟨r, 0, none⟩ = some a ∧ X.cell? ⟨r, 1, none⟩ = some b ∧ X.frozen? ⟨r, 0, none⟩ = false ∧ X.frozen? ⟨r, 1, none⟩ = false := by
 refine ⟨?_, ?_, ?_, ?_⟩
 · unfold World.cell?; rw [h]; rfl
 · unfold World.cell?; rw [h]; rfl
 · unfold World.frozen?; rw [h]; simp
 · unfold World.frozen?; rw [h]; simp
theorem tne : (106 : Nat) ≠ 3 := by decide
theorem row_put2 {X : World} {r g : Nat} {cs ds : Array Value} {s t : TypeId} {fr fs : Nat × Nat} {u v : Value} (h : X.heap[g]? = some (.cells cs s fr)) (hr : X.heap[r]? = some (.cells ds t fs)) (hne : (t : Nat) ≠ s) : ((X.setCell ⟨r, 0, none⟩ u).setCell ⟨r, 1, none⟩ v).heap[g]? = some (.cells cs s fr) := by
 have hgr : r ≠ g := by
  intro he
  subst he
  rw [h] at hr
  injection hr with hr
  injection hr with _ hr
  exact hne hr.symm
 exact one_other (one_other h ⟨r, 0, none⟩ u hgr) ⟨r, 1, none⟩ v hgr
theorem isSize_any (z : Int) (r : Bool) (hr : rightB z = r) (w : World) : Calls Tryz.prog 48 #[.int .i64 z] w fun e w' => e = .returned (.bool r) ∧ w' = w := by
 cases r with
 | true =>
   obtain ⟨N, rfl, hN⟩ := right_of hr
   clear hr
   rcases hN with rfl | rfl | rfl | rfl | rfl
   all_goals
    go_enter Tryz.func48, Tryz.ntmps48
    go_wp2
    go_ret
    exact ⟨rfl, rfl⟩
 | false =>
   have h := of_decide_eq_false hr
   have h1 : (z == 1) = false := by rw [beq_eq_false_iff_ne]; omega
   have h2 : (z == 2) = false := by rw [beq_eq_false_iff_ne]; omega
   have h4 : (z == 4) = false := by rw [beq_eq_false_iff_ne]; omega
   have h8 : (z == 8) = false := by rw [beq_eq_false_iff_ne]; omega
   have h16 : (z == 16) = false := by rw [beq_eq_false_iff_ne]; omega
   clear h hr
   go_enter Tryz.func48, Tryz.ntmps48
   go_wp2
   go_ret
   exact ⟨rfl, rfl⟩
theorem refRight_any (z : Int) (r : Bool) (hr : rightB z = r) (w : World) : Calls Tryz.prog 70 #[.int .i64 z] w fun e w' => e = .returned (.bool r) ∧ w' = w := by
 cases r with
 | true =>
   obtain ⟨N, rfl, hN⟩ := right_of hr
   clear hr
   rcases hN with rfl | rfl | rfl | rfl | rfl
   all_goals
    go_enter Tryz.func70, Tryz.ntmps70
    go_wp2
    go_ret
    exact ⟨rfl, rfl⟩
 | false =>
   have h := of_decide_eq_false hr
   have h1 : (z == 1) = false := by rw [beq_eq_false_iff_ne]; omega
   have h2 : (z == 2) = false := by rw [beq_eq_false_iff_ne]; omega
   have h4 : (z == 4) = false := by rw [beq_eq_false_iff_ne]; omega
   have h8 : (z == 8) = false := by rw [beq_eq_false_iff_ne]; omega
   have h16 : (z == 16) = false := by rw [beq_eq_false_iff_ne]; omega
   clear h hr
   go_enter Tryz.func70, Tryz.ntmps70
   go_wp2
   go_ret
   exact ⟨rfl, rfl⟩
def RowAt (w : World) (a b : Nat) (s k : Int) : Prop := w.heap[a]? = some (.cells #[.int .i64 s] 3 (0, 0)) ∧ w.heap[b]? = some (.cells #[.int .i64 k] 3 (0, 0))
theorem RowAt.below {w w' : World} {a b : Nat} {s k : Int} (h : RowAt w a b s k) (hb : Below w.heap.size w w') : RowAt w' a b s k := ⟨row_keep h.1 hb, row_keep h.2 hb⟩
theorem two_new (w : World) (u v : Value) (s t : TypeId) : ((w.alloc (.cells #[u] s)).alloc (.cells #[v] t)).heap[w.heap.size]? = some (.cells #[u] s (0, 0)) ∧ ((w.alloc (.cells #[u] s)).alloc (.cells #[v] t)).heap[w.heap.size + 1]? = some (.cells #[v] t (0, 0)) ∧ Below w.heap.size w ((w.alloc (.cells #[u] s)).alloc (.cells #[v] t)) := by
 refine ⟨row_keep (heap_alloc_new w _) ((Below.refl _ _).alloc (Nat.le_refl _) _), by simpa using heap_alloc_new (w.alloc (.cells #[u] s)) (.cells #[v] t), ((Below.refl _ _).alloc (Nat.le_refl _) _).alloc (by simp) _⟩
theorem row_any (s k : Int) (w : World) : Calls Tryz.prog 105 #[.int .i64 s, .int .i64 k] w fun e w' => ∃ a b, e = .returned (.func (.func 116) #[] #[.pointer (some ⟨a, 0, none⟩), .pointer (some ⟨b, 0, none⟩)]) ∧ RowAt w' a b s k ∧ Below w.heap.size w w' := by
 obtain ⟨h1, h2, h3⟩ := two_new w (.int .i64 s) (.int .i64 k) 3 3
 have H1 := Lib.hid h1
 have H2 := Lib.hid h2
 have H3 := Lib.hid h3
 clear h1 h2 h3
 go_enter Tryz.func105, Tryz.ntmps105
 go_wp2
 go_ret
 exact ⟨_, _, rfl, ⟨H1.out, by simpa using H2.out⟩, H3.out⟩
theorem row1_any (a b : Nat) (s k z q t : Int) (hq : z * k = q) (ht : s + q = t) (hq1 : -9223372036854775808 ≤ q ∧ q ≤ 9223372036854775807) (ht1 : -9223372036854775808 ≤ t ∧ t ≤ 9223372036854775807) (w : World) (h : RowAt w a b s k) :
 Calls Tryz.prog 116 #[.int .i64 z, .pointer (some ⟨a, 0, none⟩), .pointer (some ⟨b, 0, none⟩)] w fun e w' => e = .returned (.int .i64 t) ∧ w' = w := by
 obtain ⟨c1, f1⟩ := one_cell h.1
 obtain ⟨c2, f2⟩ := one_cell h.2
 obtain ⟨q1, q2⟩ := hq1
 have w1 : IntKind.i64.wrap q = q := IntWalk.i64_in _ (by omega)
 have w2 : IntKind.i64.wrap t = t := IntWalk.i64_in _ (by omega)
 clear h f1 f2 q1 q2 ht1
 go_enter Tryz.func116, Tryz.ntmps116
 go_wp2
 go_ret
 exact ⟨rfl, rfl⟩
theorem descs_any (s : Int) (w : World) : Calls Tryz.prog 88 #[.int .i64 s] w fun e w' => ∃ a b, e = .returned (.func (.func 116) #[] #[.pointer (some ⟨a, 0, none⟩), .pointer (some ⟨b, 0, none⟩)]) ∧ RowAt w' a b s 16 ∧ Below w.heap.size w w' := by
 go_enter Tryz.func88, Tryz.ntmps88
 go_wp2_with fail
 refine (row_any _ _ _).mono ?_
 rintro e w1 ⟨a, b, rfl, hr, hb⟩
 have HR := Lib.hid hr
 have HB := Lib.hid hb
 clear hr hb
 go_wp2
 go_ret
 exact ⟨_, _, rfl, HR.out, HB.out⟩
theorem partAt_any (s k p q : Int) (hp : s + 2 = p) (hq : p + 2 = q) (h1 : 0 ≤ s) (h2 : s ≤ 1000000) (w : World) : Calls Tryz.prog 85 #[.int .i64 s, .int .i64 k] w fun e w' => ∃ a b, e = .returned (.agg #[.int .i64 p, .func (.func 116) #[] #[.pointer (some ⟨a, 0, none⟩), .pointer (some ⟨b, 0, none⟩)]]) ∧ RowAt w' a b q k ∧ Below w.heap.size w w' := by
 have wp : IntKind.i64.wrap p = p := IntWalk.i64_in _ (by omega)
 have wq : IntKind.i64.wrap q = q := IntWalk.i64_in _ (by omega)
 have HB0 := Lib.hid ((Below.refl w.heap.size w).alloc (Nat.le_refl _) (.cells #[.int .i64 0, .nilFunc] 106))
 clear h1 h2
 go_enter Tryz.func85, Tryz.ntmps85
 go_wp2_with fail
 refine (row_any _ _ _).mono ?_
 rintro e w1 ⟨a, b, rfl, hr, hb⟩
 have HR := Lib.hid hr
 have hrow := row_keep (heap_alloc_new w (.cells #[.int .i64 0, .nilFunc] 106)) hb
 obtain ⟨hc0, hc1, hz0, hz1⟩ := cells_two hrow
 have HB1 := Lib.hid (HB0.out.trans (hb.mono (by simp)))
 have HROW := Lib.hid hrow
 clear hr hb hrow
 go_wp2
 refine bodyPost_ret (v := .agg #[.int .i64 p, .func (.func 116) #[] #[.pointer (some ⟨a, 0, none⟩), .pointer (some ⟨b, 0, none⟩)]]) (by simp [results, Tryz.results85, go_sem, hc0, hc1]) rfl ⟨_, _, rfl, ?_, ?_⟩
 · exact ⟨row_put2 HR.out.1 HROW.out tne, row_put2 HR.out.2 HROW.out tne⟩
 · exact (HB1.out.setCell (by simp) _).setCell (by simp) _
theorem field_entry (x : Int) (a b : Nat) (W : World) : (Instr.field 106 (.agg #[.int .i64 x, .func (.func 116) #[] #[.pointer (some ⟨a, 0, none⟩), .pointer (some ⟨b, 0, none⟩)]]) 1).run Tryz.prog W = .ok (.func (.func 116) #[] #[.pointer (some ⟨a, 0, none⟩), .pointer (some ⟨b, 0, none⟩)]) W := by kernel_rfl
theorem field_index (x : Int) (a b : Nat) (W : World) : (Instr.field 106 (.agg #[.int .i64 x, .func (.func 116) #[] #[.pointer (some ⟨a, 0, none⟩), .pointer (some ⟨b, 0, none⟩)]]) 0).run Tryz.prog W = .ok (.int .i64 x) W := by kernel_rfl
end Go.Proofs.YtnmekbbnglkmcaaGreat
namespace Go.Proofs.YtnmekbbnglkmcaaGreat
open Go.RowKit Go.Lib
theorem availPart_any (B N p q : Nat) (hp : B + 16 * N + 2 = p) (hq : B + 16 * N + 4 = q) (hB : B ≤ 8192) (hN : N ≤ 16) (w : World) :
 Calls Tryz.prog 62 #[.int .i64 (B : Nat), .int .i64 (N : Nat)] w fun e w' => ∃ a b, e = .returned (.agg #[.int .i64 (p : Nat), .func (.func 116) #[] #[.pointer (some ⟨a, 0, none⟩), .pointer (some ⟨b, 0, none⟩)]]) ∧ RowAt w' a b (q : Nat) 2 ∧ Below w.heap.size w w' := by
 obtain ⟨t, ht⟩ : ∃ t : Nat, t = B + 16 * N := ⟨_, rfl⟩
 have HT := Lib.hid ht
 have HP := Lib.hid hp
 have HQ := Lib.hid hq
 have HBB := Lib.hid hB
 have HNN := Lib.hid hN
 have HB0 := Lib.hid ((Below.refl w.heap.size w).alloc (Nat.le_refl _) (.cells #[.int .i64 0, .nilFunc] 106))
 clear ht hp hq hB hN
 go_enter Tryz.func62, Tryz.ntmps62
 go_wp2_with fail
 refine (descs_any _ _).mono ?_
 rintro e w1 ⟨a, b, rfl, hr, hb⟩
 have HR := Lib.hid hr
 have HROW := Lib.hid (row_keep (heap_alloc_new w (.cells #[.int .i64 0, .nilFunc] 106)) hb)
 have HB1 := Lib.hid (HB0.out.trans (hb.mono (by simp)))
 clear hr hb
 go_wp2_with fail
 refine (row1_any a b _ _ (N : Nat) ((16 * N : Nat) : Int) (t : Nat) (by omega) (by have := HT.out; omega) (by have := HNN.out; omega) (by have := HT.out; have := HNN.out; have := HBB.out; omega) _ HR.out).mono ?_
 rintro e w2 ⟨rfl, rfl⟩
 go_wp2_with fail
 refine (partAt_any (t : Nat) 2 (p : Nat) (q : Nat) (by have := HT.out; have := HP.out; omega) (by have := HP.out; have := HQ.out; omega) (by omega) (by have := HT.out; have := HNN.out; have := HBB.out; omega) _).mono ?_
 rintro e w3 ⟨c, d, rfl, hr, hb⟩
 have HR2 := Lib.hid hr
 have hrow := row_keep HROW.out hb
 have HROW2 := Lib.hid hrow
 obtain ⟨hc0, hc1, hz0, hz1⟩ := cells_two hrow
 have HB2 := Lib.hid (HB1.out.trans (hb.mono HB1.out.size))
 clear hr hb hrow
 go_wp2
 refine bodyPost_ret (v := .agg #[.int .i64 (p : Nat), .func (.func 116) #[] #[.pointer (some ⟨c, 0, none⟩), .pointer (some ⟨d, 0, none⟩)]]) (by simp [results, Tryz.results62, go_sem, hc0, hc1]) rfl ⟨_, _, rfl, ?_, ?_⟩
 · exact ⟨row_put2 HR2.out.1 HROW2.out tne, row_put2 HR2.out.2 HROW2.out tne⟩
 · exact (HB2.out.setCell (by simp) _).setCell (by simp) _
set_option maxRecDepth 100000 in
theorem usedPart_any (B N p q : Nat) (hp : B + secN N + 2 = p) (hq : B + secN N + 4 = q) (hB : B ≤ 8192) (hN : N ≤ 16) (w : World) :
 Calls Tryz.prog 54 #[.int .i64 (B : Nat), .int .i64 (N : Nat)] w fun e w' => ∃ a b, e = .returned (.agg #[.int .i64 (p : Nat), .func (.func 116) #[] #[.pointer (some ⟨a, 0, none⟩), .pointer (some ⟨b, 0, none⟩)]]) ∧ RowAt w' a b (q : Nat) 8 ∧ Below w.heap.size w w' := by
 obtain ⟨s, hs⟩ : ∃ s : Nat, s = 18 * N + 4 := ⟨_, rfl⟩
 obtain ⟨x, hx⟩ : ∃ x : Nat, x = (18 * N + 7) / 4 := ⟨_, rfl⟩
 obtain ⟨y, hy⟩ : ∃ y : Nat, y = secN N := ⟨_, rfl⟩
 obtain ⟨t, ht⟩ : ∃ t : Nat, t = B + y := ⟨_, rfl⟩
 have hxy : y = x * 4 := by rw [hy, hx]; rfl
 rw [← hy] at hp hq
 have HS := Lib.hid hs
 have HP := Lib.hid hp
 have HQ := Lib.hid hq
 have HBB := Lib.hid hB
 have HNN := Lib.hid hN
 have HT := Lib.hid ht
 have hy2 : y ≤ 300 := by omega
 have HY := Lib.hid hy2
 obtain ⟨v, hv⟩ : ∃ v : Nat, v = s + 3 := ⟨_, rfl⟩
 have e1 : (s : Int) + 4 - 1 = (v : Nat) := by omega
 have e2 : (v : Int) / 4 = (x : Nat) := by omega
 have v1 : v ≤ 1000 := by omega
 have e3 : (x : Int) * 4 = (y : Nat) := by omega
 have e4 : (B : Int) + (y : Nat) = (t : Nat) := by omega
 have s1 : s ≤ 1000 := by omega
 have x1 : x ≤ 1000 := by omega
 have t1 : t ≤ 10000 := by omega
 have HB0 := Lib.hid ((Below.refl w.heap.size w).alloc (Nat.le_refl _) (.cells #[.int .i64 0, .nilFunc] 106))
 clear hs hx hy ht hv hxy hp hq hB hN hy2
 have hfe := field_entry
 go_enter Tryz.func54, Tryz.ntmps54
 go_wp2_with fail
 refine (availPart_any 0 N (16 * N + 2) (16 * N + 4) (by omega) (by omega) (by omega) HNN.out _).mono ?_
 rintro e w1 ⟨a, b, rfl, hr, hb⟩
 have HR := Lib.hid hr
 have HROW := Lib.hid (row_keep (heap_alloc_new w (.cells #[.int .i64 0, .nilFunc] 106)) hb)
 have HB1 := Lib.hid (HB0.out.trans (hb.mono (by simp)))
 clear hr hb
 go_wp2_with fail
 refine (row1_any a b _ _ (N : Nat) ((2 * N : Nat) : Int) (s : Nat) (by omega) (by have := HS.out; omega) (by have := HNN.out; omega) (by omega) _ HR.out).mono ?_
 rintro e w2 ⟨rfl, rfl⟩
 go_wp2_with fail
 refine (partAt_any (t : Nat) 8 (p : Nat) (q : Nat) (by have := HT.out; have := HP.out; omega) (by have := HP.out; have := HQ.out; omega) (by omega) (by omega) _).mono ?_
 rintro e w3 ⟨c, d, rfl, hr, hb⟩
 have HR2 := Lib.hid hr
 have hrow := row_keep HROW.out hb
 have HROW2 := Lib.hid hrow
 obtain ⟨hc0, hc1, hz0, hz1⟩ := cells_two hrow
 have HB2 := Lib.hid (HB1.out.trans (hb.mono HB1.out.size))
 clear hr hb hrow
 go_wp2
 refine bodyPost_ret (v := .agg #[.int .i64 (p : Nat), .func (.func 116) #[] #[.pointer (some ⟨c, 0, none⟩), .pointer (some ⟨d, 0, none⟩)]]) (by simp [results, Tryz.results54, go_sem, hc0, hc1]) rfl ⟨_, _, rfl, ?_, ?_⟩
 · exact ⟨row_put2 HR2.out.1 HROW2.out tne, row_put2 HR2.out.2 HROW2.out tne⟩
 · exact (HB2.out.setCell (by simp) _).setCell (by simp) _
set_option maxRecDepth 100000 in
theorem size_any (z r : Int) (hr : sizeZ z = r) (w : World) : Calls Tryz.prog 22 #[.int .i64 z] w fun e w' => e = .returned (.int .i64 r) ∧ Below w.heap.size w w' := by
 subst hr
 cases h : rightB z with
 | false =>
   have H := Lib.hid h
   rw [sizeZ_not h]
   clear h
   go_enter Tryz.func22, Tryz.ntmps22
   go_wp2_with fail
   refine (isSize_any _ _ H.out _).mono ?_
   rintro e w1 ⟨rfl, rfl⟩
   go_wp2
   go_ret
   exact ⟨rfl, Below.refl _ _⟩
 | true =>
   have H := Lib.hid h
   obtain ⟨N, rfl, hN⟩ := right_of h
   rw [sizeZ_of hN]
   obtain ⟨s, hs⟩ : ∃ s : Nat, s = sizeN N := ⟨_, rfl⟩
   obtain ⟨y, hy⟩ : ∃ y : Nat, y = secN N := ⟨_, rfl⟩
   have hsy := sizeN_le N
   rw [← hs, ← hy] at hsy
   rw [← hs]
   have HSY := Lib.hid hsy
   have HY := Lib.hid hy
   have HN := Lib.hid hN.le
   clear h hN hs hy hsy
   have hfe := field_entry
   go_enter Tryz.func22, Tryz.ntmps22
   go_wp2_with fail
   refine (isSize_any _ _ H.out _).mono ?_
   rintro e w1 ⟨rfl, rfl⟩
   go_wp2_with fail
   refine (usedPart_any 0 N (y + 2) (y + 4) (by have := HY.out; omega) (by have := HY.out; omega) (by omega) HN.out.2 _).mono ?_
   rintro e w2 ⟨a, b, rfl, hr, hb⟩
   have HR := Lib.hid hr
   have HB := Lib.hid hb
   clear hr hb
   go_wp2_with fail
   refine (row1_any a b _ _ (N : Nat) ((8 * N : Nat) : Int) (s : Nat) (by omega) (by have := HSY.out; omega) (by have := HN.out; omega) (by have := HSY.out; have := HN.out; omega) _ HR.out).mono ?_
   rintro e w3 ⟨rfl, rfl⟩
   go_wp2
   go_ret
   exact ⟨rfl, HB.out⟩
theorem refFirst_any (N p : Nat) (hp : 16 * N = p) (hN : N ≤ 16) (w : World) : Calls Tryz.prog 44 #[.int .i64 (N : Nat)] w fun e w' => e = .returned (.int .i64 (p : Nat)) ∧ w' = w := by
 have h : (16 : Int) * (N : Nat) = (p : Nat) := by omega
 have h2 : p ≤ 1000 := by omega
 clear hp hN
 go_enter Tryz.func44, Tryz.ntmps44
 go_wp2
 go_ret
 exact ⟨rfl, rfl⟩
set_option maxRecDepth 100000 in
theorem refSecond_any (N p : Nat) (hp : secN N = p) (hN : N ≤ 16) (w : World) : Calls Tryz.prog 34 #[.int .i64 (N : Nat)] w fun e w' => e = .returned (.int .i64 (p : Nat)) ∧ w' = w := by
 obtain ⟨a, ha⟩ : ∃ a : Nat, a = 16 * N := ⟨_, rfl⟩
 obtain ⟨b, hb⟩ : ∃ b : Nat, b = 2 * N := ⟨_, rfl⟩
 obtain ⟨c, hc⟩ : ∃ c : Nat, c = a + b := ⟨_, rfl⟩
 obtain ⟨d, hd⟩ : ∃ d : Nat, d = c + 7 := ⟨_, rfl⟩
 obtain ⟨x, hx⟩ : ∃ x : Nat, x = d / 4 := ⟨_, rfl⟩
 have h1 : (16 : Int) * (N : Nat) = (a : Nat) := by omega
 have h2 : (2 : Int) * (N : Nat) = (b : Nat) := by omega
 have h3 : (a : Int) + 4 + (b : Nat) + 3 = (d : Nat) := by omega
 have h4 : (d : Int) / 4 = (x : Nat) := by omega
 have h5 : (x : Int) * 4 = (p : Nat) := by
  unfold secN at hp
  omega
 have a1 : a ≤ 1000 := by omega
 have b1 : b ≤ 1000 := by omega
 have d1 : d ≤ 3000 := by omega
 have x1 : x ≤ 3000 := by omega
 have p1 : p ≤ 10000 := by omega
 clear hp hN ha hb hc hd hx
 go_enter Tryz.func34, Tryz.ntmps34
 go_wp2
 go_ret
 exact ⟨rfl, rfl⟩
set_option maxRecDepth 100000 in
theorem refSize_any (z r : Int) (hr : sizeZ z = r) (w : World) : Calls Tryz.prog 72 #[.int .i64 z] w fun e w' => e = .returned (.int .i64 r) ∧ w' = w := by
 subst hr
 cases h : rightB z with
 | false =>
   have H := Lib.hid h
   rw [sizeZ_not h]
   clear h
   go_enter Tryz.func72, Tryz.ntmps72
   go_wp2_with fail
   refine (refRight_any _ _ H.out _).mono ?_
   rintro e w1 ⟨rfl, rfl⟩
   go_wp2
   go_ret
   exact ⟨rfl, rfl⟩
 | true =>
   have H := Lib.hid h
   obtain ⟨N, rfl, hN⟩ := right_of h
   rw [sizeZ_of hN]
   obtain ⟨s, hs⟩ : ∃ s : Nat, s = sizeN N := ⟨_, rfl⟩
   obtain ⟨y, hy⟩ : ∃ y : Nat, y = secN N := ⟨_, rfl⟩
   have hsy := sizeN_le N
   rw [← hs, ← hy] at hsy
   rw [← hs]
   have HY := Lib.hid hy.symm
   have HN := Lib.hid hN.le
   obtain ⟨b, hb⟩ : ∃ b : Nat, b = 8 * N := ⟨_, rfl⟩
   have h2 : (8 : Int) * (N : Nat) = (b : Nat) := by omega
   have h3 : (y : Int) + 4 + (b : Nat) = (s : Nat) := by omega
   have hn := hN.le
   have y1 : y ≤ 1000 := by omega
   have b1 : b ≤ 1000 := by omega
   have s1 : s ≤ 10000 := by omega
   clear h hN hs hy hsy hb hn
   go_enter Tryz.func72, Tryz.ntmps72
   go_wp2_with fail
   refine (refRight_any _ _ H.out _).mono ?_
   rintro e w1 ⟨rfl, rfl⟩
   go_wp2_with fail
   refine (refSecond_any N y HY.out HN.out.2 _).mono ?_
   rintro e w2 ⟨rfl, rfl⟩
   go_wp2
   go_ret
   exact ⟨rfl, rfl⟩
set_option maxRecDepth 100000 in
theorem place_any (x s k q t : Int) (a b N i j : Nat) (hj : i % N = j) (hN : 1 ≤ N ∧ N ≤ 16) (hi : i < 65536) (hq : (j : Int) * k = q) (ht : s + q = t) (hq1 : -9223372036854775808 ≤ q ∧ q ≤ 9223372036854775807) (ht1 : -9223372036854775808 ≤ t ∧ t ≤ 9223372036854775807) (w : World) (hr : RowAt w a b s k) :
 Calls Tryz.prog 66 #[.agg #[.int .i64 x, .func (.func 116) #[] #[.pointer (some ⟨a, 0, none⟩), .pointer (some ⟨b, 0, none⟩)]], .int .i64 (N : Nat), .int .u16 (i : Nat)] w fun e w' => e = .returned (.int .i64 t) ∧ Below w.heap.size w w' := by
 have htm : ((i : Nat) : Int).tmod ((N : Nat) : Int) = (j : Nat) := by rw [Int.tmod_eq_emod_of_nonneg (by omega)]; omega
 have hz : ¬ (N = 0) := by omega
 have hwj : IntKind.i64.wrap ((j : Nat) : Int) = (j : Nat) := IntWalk.i64_in _ (by have := Nat.mod_le i N; omega)
 have hwi : IntKind.i64.wrap ((i : Nat) : Int) = (i : Nat) := IntWalk.i64_in _ (by omega)
 have HQ := Lib.hid hq
 have HT := Lib.hid ht
 have HQ1 := Lib.hid hq1
 have HT1 := Lib.hid ht1
 have hb := (Below.refl w.heap.size w).alloc (Nat.le_refl _) (.cells #[.int .i64 x, .func (.func 116) #[] #[.pointer (some ⟨a, 0, none⟩), .pointer (some ⟨b, 0, none⟩)]] 106)
 have HR := Lib.hid (fun n => (hr.below hb).below (below_drewN (Below.refl _ _) n))
 have HB := Lib.hid hb
 clear hj hq ht hq1 ht1 hb hr
 go_enter Tryz.func66, Tryz.ntmps66
 go_wp2_with fail
 go_quiet ((go_at_call 116; refine Calls.quiet_of_same (row1_any a b s k _ q t HQ.out HT.out HQ1.out HT1.out _ (HR.out _))))
 go_wp2
 go_ret
 exact ⟨rfl, below_drewN HB.out _⟩
end Go.Proofs.YtnmekbbnglkmcaaGreat
