/- Plain facts on numbers as bytes: no dump is imported. -/
import Derived.Lib.UnsafeStr
import Derived.Laws.MakeOwn
import Derived.IntWalk
import Derived.Below
import Derived.OpenShut
namespace Go.Proofs.Ytofeiheomnpggaa
open Go Go.Lib

/-- The lowest k bytes of n, the lowest first. -/
def leB (n k : Nat) : List UInt8 := (List.range k).map fun i => UInt8.ofNat (n / 256 ^ i)
/-- The highest of them first. -/
def beB (n k : Nat) : List UInt8 := (leB n k).reverse
def zeros (k : Nat) : List Value := List.replicate k (.int .u8 0)

@[simp] theorem leB_length (n k : Nat) : (leB n k).length = k := by simp [leB]
@[simp] theorem beB_length (n k : Nat) : (beB n k).length = k := by simp [beB]
theorem leB_succ (n k : Nat) : leB n (k + 1) = leB n k ++ [UInt8.ofNat (n / 256 ^ k)] := by simp [leB, List.range_succ]
theorem beB_succ (n k : Nat) : beB n (k + 1) = UInt8.ofNat (n / 256 ^ k) :: beB n k := by simp [beB, leB_succ]

theorem made_zeros (k : Nat) : (madeCells #[Value.int .u8 0] k).toList = zeros k := by
  unfold madeCells zeros
  rw [Array.toList_map, Array.toList_range]
  apply List.ext_getElem
  · simp
  · intro i h1 h2
    simp [Nat.mod_one]
theorem zeros_succ (k : Nat) : zeros (k + 1) = .int .u8 0 :: zeros k := by simp [zeros, List.replicate_succ]
theorem zeros_snoc (k : Nat) : zeros (k + 1) = zeros k ++ [.int .u8 0] := by simp [zeros, List.replicate_succ']

/-- The row behind i rounds, the lowest byte first. -/
def loRow (n k i : Nat) : List Value := byteCells (leB n i) ++ zeros (k - i)
/-- The row behind i rounds, the highest byte first. -/
def hiRow (n k i : Nat) : List Value := zeros (k - i) ++ byteCells (beB n i)
@[simp] theorem loRow_length (n k i : Nat) (h : i ≤ k) : (loRow n k i).length = k := by simp [loRow, zeros, byteCells]; omega
@[simp] theorem hiRow_length (n k i : Nat) (h : i ≤ k) : (hiRow n k i).length = k := by simp [hiRow, zeros, byteCells]; omega
theorem loRow_zero (n k : Nat) : loRow n k 0 = zeros k := by simp [loRow, leB, byteCells]
theorem hiRow_zero (n k : Nat) : hiRow n k 0 = zeros k := by simp [hiRow, beB, leB, byteCells]
theorem loRow_all (n k : Nat) : loRow n k k = byteCells (leB n k) := by simp [loRow, zeros]
theorem hiRow_all (n k : Nat) : hiRow n k k = byteCells (beB n k) := by simp [hiRow, zeros]
theorem byteOf (n i : Nat) : ((UInt8.ofNat (n / 256 ^ i)).toNat : Int) = ((n / 256 ^ i % 256 : Nat) : Int) := by simp
theorem loRow_set (n k i : Nat) (h : i < k) : (loRow n k i).set i (.int .u8 ((n / 256 ^ i % 256 : Nat) : Int)) = loRow n k (i + 1) := by
  unfold loRow
  obtain ⟨m, hm⟩ : ∃ m, k - i = m + 1 := ⟨k - i - 1, by omega⟩
  have hm' : k - (i + 1) = m := by omega
  rw [hm, hm', zeros_succ, leB_succ, byteCells_append, List.set_append]
  simp [byteCells]
theorem hiRow_set (n k i : Nat) (h : i < k) : (hiRow n k i).set (k - 1 - i) (.int .u8 ((n / 256 ^ i % 256 : Nat) : Int)) = hiRow n k (i + 1) := by
  unfold hiRow
  obtain ⟨m, hm⟩ : ∃ m, k - i = m + 1 := ⟨k - i - 1, by omega⟩
  have hm' : k - (i + 1) = m := by omega
  have hm2 : k - 1 - i = m := by omega
  rw [hm, hm', hm2, zeros_snoc, beB_succ, List.append_assoc, List.set_append]
  simp [byteCells, zeros]
theorem loRow_at (n k i : Nat) (h : i < k) : (loRow n k i)[i]? = some (.int .u8 0) := by
  unfold loRow
  obtain ⟨m, hm⟩ : ∃ m, k - i = m + 1 := ⟨k - i - 1, by omega⟩
  rw [hm, zeros_succ, List.getElem?_append]
  simp [byteCells]
theorem hiRow_at (n k i : Nat) (h : i < k) : (hiRow n k i)[k - 1 - i]? = some (.int .u8 0) := by
  unfold hiRow
  obtain ⟨m, hm⟩ : ∃ m, k - i = m + 1 := ⟨k - i - 1, by omega⟩
  have hm2 : k - 1 - i = m := by omega
  rw [hm, hm2, zeros_snoc, List.getElem?_append]
  simp [zeros]
/-- A row that is known whole, behind a store into it. -/
theorem row_set {w : World} {g i : Nat} {xs : List Value} {t : TypeId} {fr : Nat × Nat} (h : w.heap[g]? = some (.cells xs.toArray t fr)) (v : Value) :
    (w.setCell ⟨g, i, none⟩ v).heap[g]? = some (.cells (xs.set i v).toArray t fr) := by
  simp [World.setCell, Array.getElem?_modify, h]
theorem row_alloc {w : World} {g : Nat} {o : Obj} (h : w.heap[g]? = some o) (o' : Obj) : (w.alloc o').heap[g]? = some o := by
  show (w.heap.push o')[g]? = _
  rw [Array.getElem?_push, if_neg (by have := (Array.getElem?_eq_some_iff.1 h).1; omega)]; exact h
theorem row_drew {w : World} {g : Nat} {o : Obj} (h : w.heap[g]? = some o) : w.drew.heap[g]? = some o := h
/-- The byte that a round puts, in the walk's spelling. -/
theorem byte_put (n i : Nat) : (n : Int) / 2 ^ (8 * i) % 256 = ((n / 256 ^ i % 256 : Nat) : Int) := by
  rw [Int.natCast_emod, Int.natCast_ediv, Int.natCast_pow, show ((2 : Int) ^ (8 * i)) = 256 ^ i by rw [Int.pow_mul]; rfl]
  rfl
theorem owns_of_row {w : World} {g k base : Nat} {xs : List Value} {t : TypeId} (h : w.heap[g]? = some (.cells xs.toArray t (0, 0))) (hb : base ≤ g) (hx : xs.length = k) (hk : k ≤ maxLen) :
    w.ownsRow base t 1 (.slice (some ⟨g, 0, none⟩) k k) k xs :=
  ⟨by omega, .inr ⟨g, k, _, rfl, hb, h, Nat.le_refl _, hk, by simp [hx], by simp [← hx]⟩⟩
/-- A slice that reads as these bytes. -/
def IsBytes (w : World) (v : Value) (l : List UInt8) : Prop :=
  (∃ a c, v = .slice a 0 c ∧ l = []) ∨ ∃ b off cap, v = .slice (some ⟨b, off, none⟩) l.length cap ∧ l.length ≤ cap ∧ cap ≤ maxLen ∧ b < w.heap.size ∧ ∀ i, i < l.length → w.cell? ⟨b, off + i, none⟩ = some (.int .u8 (l.getD i 0).toNat)
/-- The number of bytes, the lowest first. -/
def leN : List UInt8 → Nat
  | [] => 0
  | b :: r => b.toNat + 256 * leN r
/-- .. the highest first. -/
def beN (l : List UInt8) : Nat := leN l.reverse
theorem leN_lt (l : List UInt8) : leN l < 256 ^ l.length := by
  induction l with
  | nil => simp [leN]
  | cons b r ih => simp only [leN, List.length_cons, Nat.pow_succ]; have := b.toNat_lt; omega
theorem leN_snoc (l : List UInt8) (b : UInt8) : leN (l ++ [b]) = leN l + b.toNat * 256 ^ l.length := by
  induction l with
  | nil => simp [leN]
  | cons c r ih => simp only [List.cons_append, leN, ih, List.length_cons, Nat.pow_succ]; rw [Nat.mul_add, ← Nat.add_assoc, Nat.mul_comm 256 (_ * _), Nat.mul_assoc]
theorem leN_take (l : List UInt8) (i : Nat) (h : i < l.length) : leN (l.take (i + 1)) = leN (l.take i) + (l[i]?.getD 0).toNat * 256 ^ i := by
  rw [List.take_succ_eq_append_getElem h, leN_snoc, List.length_take, Nat.min_eq_left (by omega), List.getElem?_eq_getElem h]; rfl
/-- One byte more, at its place: in the walk's spelling. -/
theorem or_step (N i : Nat) (b : UInt8) (hN : N < 256 ^ i) (hi : i < 8) :
    bits BinOp.or IntKind.u64 (N : Int) (IntKind.u64.wrap (IntKind.u64.wrap ((b.toNat : Nat) : Int) * 2 ^ (8 * i))) = ((N + b.toNat * 256 ^ i : Nat) : Int) := by
  have hb := b.toNat_lt
  have hp : 256 ^ i * 256 ≤ 256 ^ 8 := by rw [← Nat.pow_succ]; exact Nat.pow_le_pow_right (by decide) (by omega)
  have hb1 : b.toNat * 256 ^ i + 256 ^ i ≤ 256 ^ i * 256 := by
    rw [Nat.mul_comm (256 ^ i) 256, ← Nat.succ_mul]; exact Nat.mul_le_mul_right _ (by omega)
  have h88 : (256 : Nat) ^ 8 = 18446744073709551616 := rfl
  have e1 : IntKind.u64.wrap ((b.toNat : Nat) : Int) = ((b.toNat : Nat) : Int) := IntWalk.u64_in _ (by omega)
  have e2 : ((b.toNat : Nat) : Int) * 2 ^ (8 * i) = ((b.toNat * 256 ^ i : Nat) : Int) := by
    rw [Int.natCast_mul, Int.natCast_pow, show ((2 : Int) ^ (8 * i)) = 256 ^ i by rw [Int.pow_mul]; rfl]; rfl
  rw [e1, e2, IntWalk.u64_in _ (by omega)]
  have e3 : (b.toNat * 256 ^ i) ||| N = b.toNat * 256 ^ i + N := by
    have h2 : (256 : Nat) ^ i = 2 ^ (8 * i) := by rw [Nat.pow_mul]
    have := Nat.shiftLeft_add_eq_or_of_lt (i := 8 * i) (b := N) (by rw [← h2]; exact hN) b.toNat
    rw [Nat.shiftLeft_eq, ← h2] at this
    exact this.symm
  show IntKind.u64.wrap (((BitVec.ofInt 64 (N : Int)) ||| (BitVec.ofInt 64 ((b.toNat * 256 ^ i : Nat) : Int))).toNat : Int) = _
  have c1 : (BitVec.ofInt 64 (N : Int)) = BitVec.ofNat 64 N := BitVec.ofInt_natCast ..
  have c2 : (BitVec.ofInt 64 ((b.toNat * 256 ^ i : Nat) : Int)) = BitVec.ofNat 64 (b.toNat * 256 ^ i) := BitVec.ofInt_natCast ..
  rw [c1, c2]
  rw [show (BitVec.ofNat 64 N ||| BitVec.ofNat 64 (b.toNat * 256 ^ i)).toNat = N + b.toNat * 256 ^ i by
    rw [BitVec.toNat_or, BitVec.toNat_ofNat, BitVec.toNat_ofNat, Nat.mod_eq_of_lt (by omega), Nat.mod_eq_of_lt (by omega), Nat.or_comm, e3, Nat.add_comm]]
  exact IntWalk.u64_in _ (by omega)
theorem take_rev_at (l : List UInt8) (m i : Nat) (hm : m ≤ l.length) (hi : i < m) : ((l.take m).reverse)[i]?.getD 0 = l[m - 1 - i]?.getD 0 := by
  rw [List.getElem?_reverse (by simp; omega), List.length_take, Nat.min_eq_left hm, List.getElem?_take, if_pos (by omega)]
theorem take_len8 (l : List UInt8) : l.take (l.take 8).length = l.take 8 := by rw [List.length_take, ← List.take_eq_take_min]
theorem lo_end (l : List UInt8) (m : Nat) (h : m = (l.take 8).length) : leN (l.take m) = leN (l.take 8) := by rw [h, take_len8]
theorem hi_end (l : List UInt8) (m : Nat) (h : m = (l.take 8).length) : leN ((l.take m).reverse.take m) = beN (l.take 8) := by
  rw [h, take_len8, List.take_of_length_le (by simp)]; rfl
theorem div_step (n i q : Nat) (h : q = n / 256 ^ i) : ((n / 256 ^ (i + 1) : Nat) : Int) = (q : Int) / 256 := by
  rw [h, Nat.pow_succ, ← Nat.div_div_eq_div_mul, Int.natCast_ediv]; rfl
theorem isBytes_of_owns {w : World} {base : Nat} {t : TypeId} {v : Value} {l : List UInt8} (h : w.ownsRow base t 1 v l.length (byteCells l)) : IsBytes w v l := by
  rcases h.2 with ⟨rfl, h0⟩ | ⟨g, cap, cur, rfl, _, hg, hn, hm, _, htk⟩
  · exact .inl ⟨none, 0, rfl, List.length_eq_zero_iff.1 h0⟩
  · refine .inr ⟨g, 0, cap, rfl, hn, hm, (Array.getElem?_eq_some_iff.1 hg).1, fun i hi => ?_⟩
    have hc := World.ownsRow.cells h (g := g) rfl i (.int .u8 (l.getD i 0).toNat) (by simp [byteCells, hi])
    rw [Addr.add_lit] at hc
    exact hc
theorem IsBytes.below {w w' : World} {v : Value} {l : List UInt8} (h : IsBytes w v l) (hb : RowKit.Below w.heap.size w w') : IsBytes w' v l := by
  rcases h with h | ⟨b, off, cap, rfl, h1, h2, h3, h4⟩
  · exact .inl h
  · exact .inr ⟨b, off, cap, rfl, h1, h2, Nat.lt_of_lt_of_le h3 hb.size, fun i hi => by rw [hb.cell (by simpa using h3)]; exact h4 i hi⟩
theorem ownsRow_base {w : World} {base base' : Nat} {t : TypeId} {size : Nat} {v : Value} {n : Nat} {xs : List Value} (h : w.ownsRow base t size v n xs) (hb : base' ≤ base) : w.ownsRow base' t size v n xs := by
  refine ⟨h.1, ?_⟩
  rcases h.2 with h2 | ⟨g, cap, cur, hv, hg, r⟩
  · exact .inl h2
  · exact .inr ⟨g, cap, cur, hv, Nat.le_trans hb hg, r⟩
theorem beB_take (n k i : Nat) (h : i < k) : (beB n k).take (i + 1) = (beB n k).take i ++ [(leB n k)[k - 1 - i]?.getD 0] := by
  rw [List.take_succ_eq_append_getElem (by simpa using h)]
  congr 1
  simp [beB, List.getElem_reverse, List.getElem?_eq_getElem (show k - 1 - i < (leB n k).length by simp; omega)]
def p256 (i : Nat) : Nat := 256 ^ i % 18446744073709551616
theorem wrap64u (n : Int) : IntKind.u64.wrap n = n % 18446744073709551616 := by simp [IntKind.wrap, IntKind.bits, IntKind.signed]
theorem beN_snoc (l : List UInt8) (b : UInt8) : beN (l ++ [b]) = 256 * beN l + b.toNat := by
  unfold beN
  rw [List.reverse_append, Nat.add_comm]
  rfl
theorem beN_lt (l : List UInt8) : beN l < 256 ^ l.length := by have := leN_lt l.reverse; rwa [List.length_reverse] at this
theorem le_step (l : List UInt8) (i N f : Nat) (x : UInt8) (hN : N = leN (l.take i)) (hf : f = p256 i) (hx : x = l[i]?.getD 0) (h1 : i < l.length) (h2 : i < 8) :
    IntKind.u64.wrap ((N : Int) + IntKind.u64.wrap ((f : Int) * IntKind.u64.wrap ((x.toNat : Nat) : Int))) = ((leN (l.take (i + 1)) : Nat) : Int) ∧
    IntKind.u64.wrap ((f : Int) * 256) = ((p256 (i + 1) : Nat) : Int) := by
  have hp : 256 ^ i ≤ 256 ^ 7 := Nat.pow_le_pow_right (by decide) (by omega)
  have h7 : (256 : Nat) ^ 7 = 72057594037927936 := rfl
  have e : f = 256 ^ i := by rw [hf]; exact Nat.mod_eq_of_lt (by omega)
  have ht := leN_take l i h1
  rw [← hx, ← hN] at ht
  have hlt := leN_lt (l.take (i + 1))
  rw [List.length_take, Nat.min_eq_left (by omega)] at hlt
  have hp8 : 256 ^ (i + 1) ≤ 256 ^ 8 := Nat.pow_le_pow_right (by decide) (by omega)
  have h8 : (256 : Nat) ^ 8 = 18446744073709551616 := rfl
  have hb := x.toNat_lt
  have e2 : (f : Int) * ((x.toNat : Nat) : Int) = ((x.toNat * 256 ^ i : Nat) : Int) := by rw [Int.natCast_mul, Int.mul_comm, e]
  have e3 : p256 (i + 1) = f * 256 % 18446744073709551616 := by unfold p256; rw [Nat.pow_succ, e]
  rw [e3, IntWalk.u64_in ((x.toNat : Nat) : Int) (by omega), e2]
  generalize x.toNat * 256 ^ i = M at *
  generalize leN (l.take (i + 1)) = R at *
  generalize 256 ^ (i + 1) = Q at *
  rw [h8] at hp8
  clear hf e e2 e3 hp h7 h8
  rw [wrap64u, wrap64u, wrap64u]
  omega
theorem be_step (l : List UInt8) (i N : Nat) (x : UInt8) (hN : N = beN (l.take i)) (hx : x = l[i]?.getD 0) (h1 : i < l.length) (h2 : i < 8) :
    IntKind.u64.wrap (IntKind.u64.wrap (256 * (N : Int)) + IntKind.u64.wrap ((x.toNat : Nat) : Int)) = ((beN (l.take (i + 1)) : Nat) : Int) := by
  have ht : beN (l.take (i + 1)) = 256 * N + x.toNat := by
    rw [List.take_succ_eq_append_getElem h1, hN, hx, List.getElem?_eq_getElem h1, beN_snoc]
    rfl
  have hlt := beN_lt (l.take (i + 1))
  rw [List.length_take, Nat.min_eq_left (by omega)] at hlt
  have hp8 : 256 ^ (i + 1) ≤ 256 ^ 8 := Nat.pow_le_pow_right (by decide) (by omega)
  have h8 : (256 : Nat) ^ 8 = 18446744073709551616 := rfl
  have hb := x.toNat_lt
  rw [h8] at hp8
  generalize beN (l.take (i + 1)) = R at *
  generalize 256 ^ (i + 1) = Q at *
  rw [wrap64u, wrap64u, wrap64u]
  omega
/-- A slice of bytes that came in, as the row's reading opens it. -/
theorem isBytes_of_ints {w : World} {x : Addr} {len cap : Nat} {zs : List Int} (hl : len ≤ cap) (hm : cap ≤ maxLen) (hz : zs.length = cap)
    (hc : ∀ i, i < zs.length → w.cell? (x.add i) = some (.int .u8 (zs.getD i 0))) (hw : ∀ n ∈ zs, (Lit.int .u8 n).wf = true) :
    IsBytes w (.slice (some x) len cap) ((zs.take len).map fun z => UInt8.ofNat z.toNat) := by
  by_cases h0 : len = 0
  · subst h0; exact .inl ⟨_, _, rfl, by simp⟩
  · have hlen : ((zs.take len).map fun z => UInt8.ofNat z.toNat).length = len := by simp; omega
    obtain ⟨b, off, rfl, hc'⟩ := ints_at hc (by omega)
    refine .inr ⟨b, off, cap, by rw [hlen], by omega, hm, ?_, fun i hi => ?_⟩
    · have := World.block_lt_of_cell? w _ (hc' 0 (by omega)); exact this
    · rw [hlen] at hi
      rw [hc' i (by omega)]
      have hz2 : i < zs.length := by omega
      have hb := bounds_u8 (hw zs[i] (List.getElem_mem hz2))
      simp only [List.getD_eq_getElem?_getD, List.getElem?_map, List.getElem?_take, if_pos hi, List.getElem?_eq_getElem hz2, Option.map_some, Option.getD_some]
      congr 2
      rw [UInt8.toNat_ofNat']
      omega
theorem row_cell {w : World} {g i : Nat} {l : List UInt8} {t : TypeId} {fr : Nat × Nat} (h : w.heap[g]? = some (.cells (byteCells l).toArray t fr)) (hi : i < l.length) :
    w.cell? ⟨g, i, none⟩ = some (.int .u8 (l.getD i 0).toNat) := by
  have hc : w.cell? ⟨g, i, none⟩ = (byteCells l).toArray[i]? := by
    unfold World.cell?
    rw [h]
    rfl
  rw [hc]
  simp [byteCells, hi]
/-- A part of a row is bytes. -/
theorem isBytes_part {w : World} {g off m cap : Nat} {l : List UInt8} {t : TypeId} {fr : Nat × Nat} (h : w.heap[g]? = some (.cells (byteCells l).toArray t fr)) (hm : off + m ≤ l.length) (hc : m ≤ cap) (hcap : cap ≤ maxLen) :
    IsBytes w (.slice (some ⟨g, off, none⟩) m cap) ((l.drop off).take m) := by
  have hlen : ((l.drop off).take m).length = m := by simp; omega
  refine .inr ⟨g, off, cap, by rw [hlen], by omega, hcap, (Array.getElem?_eq_some_iff.1 h).1, fun i hi => ?_⟩
  rw [hlen] at hi
  rw [row_cell h (by omega)]
  simp [List.getElem?_drop, hi]
theorem leB_take (n k j : Nat) (h : j ≤ k) : (leB n k).take j = leB n j := by
  unfold leB
  rw [← List.map_take, List.take_range, Nat.min_eq_left h]
theorem beB_drop (n k j : Nat) (h : j ≤ k) : (beB n k).drop (k - j) = beB n j := by
  unfold beB
  rw [List.drop_reverse, leB_length, show k - (k - j) = j by omega, leB_take n k j h]
theorem turned (n k i : Nat) (h : i < k) : (beB n k).getD (k - 1 - i) 0 = (leB n k).getD i 0 := by
  have h1 : k - 1 - (k - 1 - i) = i := by omega
  simp [beB, List.getElem?_reverse (show k - 1 - i < (leB n k).length by simp; omega), h1]
theorem isBytes_at {w : World} {g off m cap : Nat} {l l' : List UInt8} {t : TypeId} {fr : Nat × Nat} (h : w.heap[g]? = some (.cells (byteCells l).toArray t fr)) (hl : (l.drop off).take m = l') (hm : off + m ≤ l.length) (hc : m ≤ cap) (hcap : cap ≤ maxLen) :
    IsBytes w (.slice (some ⟨g, off, none⟩) m cap) l' := by rw [← hl]; exact isBytes_part h hm hc hcap
end Go.Proofs.Ytofeiheomnpggaa
