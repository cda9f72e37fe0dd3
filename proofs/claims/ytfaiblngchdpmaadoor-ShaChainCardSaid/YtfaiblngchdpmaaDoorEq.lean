/- '==' and '!=' of two arrays of integers, of whatever length. -/
import Derived.Laws.StructEq
import Derived.Test.YtfaiblngchdpmaaDoorBase
namespace Go.Proofs.YtfaiblngchdpmaaDoor
open Go.RowKit Go.Lib
variable {P : Program}
theorem part_int (w : World) (e : TypeId) (k : IntKind) (xs : List Int) (i : Nat) (x : Int) (he : P.underlying e = some (.int k)) (hx : xs[i]? = some x) :
    (part e (xs.map fun z => Value.int k z).toArray i).run P w = .ok (.int k x) w := by
  have hagg : (isAgg e).run P w = .ok false w := by
    unfold isAgg
    rw [Sem.run_bind, run_underlying he w]
    rfl
  have hi : (xs.map fun z => Value.int k z).toArray[i]? = some (.int k x) := by simp [hx]
  simp [part, Sem.run_bind, hagg, hi]
theorem run_eq_ints (w : World) (d : Nat) (e : TypeId) (k : IntKind) (a b : Int) (he : P.underlying e = some (.int k)) :
    (Op.equalIn (d + 1) e (.int k a) (.int k b)).run P w = .ok (a == b) w := by
  simp [Op.equalIn, run_underlying he]
theorem run_equalIn_ints (w : World) (d : Nat) (t e : TypeId) (n : Nat) (k : IntKind) (xs ys : List Int) (hx : xs.length = n) (hy : ys.length = n) (ht : P.underlying t = some (.array n e)) (he : P.underlying e = some (.int k)) (hs : (P.info? e).map (·.size) = some 1) :
    (Op.equalIn (d + 2) t (.agg (xs.map fun z => Value.int k z).toArray) (.agg (ys.map fun z => Value.int k z).toArray)).run P w = .ok (decide (xs = ys)) w := by
  have hsz : (sizeOf e).run P w = .ok 1 w := by
    cases hq : P.info? e with
    | none => simp [hq] at hs
    | some i =>
      have : i.size = 1 := by simpa [hq] using hs
      simp [sizeOf, typeInfo, hq, this]
  unfold Op.equalIn
  simp only [Sem.run_bind, run_underlying ht, Result.andThen_ok, hsz, Nat.mul_one]
  have key : ∀ m s, s + m = n → (forIn (List.range' s m 1) ((none : Option Bool), ()) (fun i (_ : Option Bool × Unit) => do
      let a ← part e (List.map (fun z => Value.int k z) xs).toArray i
      let b ← part e (List.map (fun z => Value.int k z) ys).toArray i
      let c ← Op.equalIn (d + 1) e a b
      if (!c) = true then pure (ForInStep.done (some false, ())) else pure (ForInStep.yield ((none : Option Bool), ())))).run P w = .ok (if xs.drop s = ys.drop s then none else some false, ()) w := by
    intro m
    induction m with
    | zero =>
      intro s h
      rw [List.drop_of_length_le (by omega), List.drop_of_length_le (by omega)]
      simp
    | succ m ih =>
      intro s h
      have h1 : s < xs.length := by omega
      have h2 : s < ys.length := by omega
      rw [List.drop_eq_getElem_cons h1, List.drop_eq_getElem_cons h2, List.range'_succ, List.forIn_cons]
      simp only [Sem.run_bind, part_int w e k xs s _ he (List.getElem?_eq_getElem h1), part_int w e k ys s _ he (List.getElem?_eq_getElem h2), Result.andThen_ok, run_eq_ints w d e k _ _ he]
      by_cases hq : xs[s] = ys[s]
      · have hq2 : (xs[s] == ys[s]) = true := beq_iff_eq.2 hq
        simp only [hq2, Bool.not_true, Bool.false_eq_true, if_false, Sem.run_pure, Result.andThen_ok]
        rw [ih (s + 1) (by omega)]
        have hc : (xs[s] :: xs.drop (s + 1) = ys[s] :: ys.drop (s + 1)) ↔ xs.drop (s + 1) = ys.drop (s + 1) := ⟨fun h => (List.cons.inj h).2, fun h => by rw [h, hq]⟩
        simp only [hc]
      · have hq2 : (xs[s] == ys[s]) = false := beq_eq_false_iff_ne.2 hq
        simp only [hq2, Bool.not_false, if_true, Sem.run_pure, Result.andThen_ok]
        rw [if_neg (fun h => hq (List.cons.inj h).1)]
  have h0 := key n 0 (by omega)
  simp only [Std.Legacy.Range.forIn_eq_forIn_range', Std.Legacy.Range.size, Nat.sub_zero, Nat.add_one_sub_one, Nat.div_one]
  rw [h0]
  simp only [List.drop_zero, Result.andThen_ok]
  by_cases hq : xs = ys
  · simp [hq]
  · simp [hq]
theorem run_eql_ints (w : World) (t e : TypeId) (n : Nat) (k : IntKind) (xs ys : List Int) (hx : xs.length = n) (hy : ys.length = n) (ht : P.underlying t = some (.array n e)) (he : P.underlying e = some (.int k)) (hs : (P.info? e).map (·.size) = some 1) :
    (binOp .eql t (.agg (xs.map fun z => Value.int k z).toArray) (.agg (ys.map fun z => Value.int k z).toArray)).run P w = .ok (.bool (decide (xs = ys))) w := by
  rw [run_eql_struct, show (10000 : Nat) = 9998 + 2 from rfl, run_equalIn_ints w 9998 t e n k xs ys hx hy ht he hs]
  rfl
theorem run_neq_ints (w : World) (t e : TypeId) (n : Nat) (k : IntKind) (xs ys : List Int) (hx : xs.length = n) (hy : ys.length = n) (ht : P.underlying t = some (.array n e)) (he : P.underlying e = some (.int k)) (hs : (P.info? e).map (·.size) = some 1) :
    (binOp .neq t (.agg (xs.map fun z => Value.int k z).toArray) (.agg (ys.map fun z => Value.int k z).toArray)).run P w = .ok (.bool (!decide (xs = ys))) w := by
  rw [run_neq_struct, show (10000 : Nat) = 9998 + 2 from rfl, run_equalIn_ints w 9998 t e n k xs ys hx hy ht he hs]
  rfl
theorem bytes_ints (l : List UInt8) : byteCells l = (l.map fun b => ((b.toNat : Nat) : Int)).map fun z => Value.int .u8 z := by simp [byteCells]
theorem bytes_ints_inj (l m : List UInt8) : (l.map fun b => ((b.toNat : Nat) : Int)) = (m.map fun b => ((b.toNat : Nat) : Int)) ↔ l = m := by
  constructor
  · intro h
    induction l generalizing m with
    | nil => cases m with
      | nil => rfl
      | cons b m => cases h
    | cons a l ih => cases m with
      | nil => cases h
      | cons b m =>
        simp only [List.map_cons, List.cons.injEq] at h
        have h1 : a = b := UInt8.toNat_inj.1 (by omega)
        rw [ih m h.2, h1]
  · intro h; rw [h]
theorem equalIn_bytes {P : Program} (w : World) (t e : TypeId) (n : Nat) (l m : List UInt8) (hx : l.length = n) (hy : m.length = n) (ht : P.underlying t = some (.array n e)) (he : P.underlying e = some (.int .u8)) (hs : (P.info? e).map (·.size) = some 1) :
    (Op.equalIn 10000 t (.agg (byteCells l).toArray) (.agg (byteCells m).toArray)).run P w = .ok (decide (l = m)) w := by
  rw [bytes_ints, bytes_ints, show (10000 : Nat) = 9998 + 2 from rfl, run_equalIn_ints w 9998 t e n .u8 _ _ (by simpa using hx) (by simpa using hy) ht he hs]
  simp only [bytes_ints_inj]
theorem equalIn_u32s {P : Program} (w : World) (t e : TypeId) (n : Nat) (l m : List Nat) (hx : l.length = n) (hy : m.length = n) (ht : P.underlying t = some (.array n e)) (he : P.underlying e = some (.int .u32)) (hs : (P.info? e).map (·.size) = some 1) :
    (Op.equalIn 10000 t (.agg (l.map fun x : Nat => Value.int .u32 ((x : Nat) : Int)).toArray) (.agg (m.map fun x : Nat => Value.int .u32 ((x : Nat) : Int)).toArray)).run P w = .ok (decide (l = m)) w := by
  have h : ∀ q : List Nat, (q.map fun x : Nat => Value.int .u32 ((x : Nat) : Int)) = (q.map fun x : Nat => ((x : Nat) : Int)).map fun z => Value.int .u32 z := fun q => by simp
  have hi : (l.map fun x : Nat => ((x : Nat) : Int)) = (m.map fun x : Nat => ((x : Nat) : Int)) ↔ l = m := by
    constructor
    · intro h
      have h2 := congrArg (List.map Int.toNat) h
      simpa [List.map_map, Function.comp_def] using h2
    · intro h; rw [h]
  rw [h, h, show (10000 : Nat) = 9998 + 2 from rfl, run_equalIn_ints w 9998 t e n .u32 _ _ (by simpa using hx) (by simpa using hy) ht he hs]
  simp only [hi]
theorem eql_bytes {P : Program} (w : World) (t e : TypeId) (n : Nat) (l m : List UInt8) (hx : l.length = n) (hy : m.length = n) (ht : P.underlying t = some (.array n e)) (he : P.underlying e = some (.int .u8)) (hs : (P.info? e).map (·.size) = some 1) :
    (binOp .eql t (.agg (byteCells l).toArray) (.agg (byteCells m).toArray)).run P w = .ok (.bool (decide (l = m))) w := by
  rw [bytes_ints, bytes_ints, run_eql_ints w t e n .u8 _ _ (by simpa using hx) (by simpa using hy) ht he hs]
  simp only [bytes_ints_inj]
theorem neq_bytes {P : Program} (w : World) (t e : TypeId) (n : Nat) (l m : List UInt8) (hx : l.length = n) (hy : m.length = n) (ht : P.underlying t = some (.array n e)) (he : P.underlying e = some (.int .u8)) (hs : (P.info? e).map (·.size) = some 1) :
    (binOp .neq t (.agg (byteCells l).toArray) (.agg (byteCells m).toArray)).run P w = .ok (.bool (!decide (l = m))) w := by
  rw [bytes_ints, bytes_ints, run_neq_ints w t e n .u8 _ _ (by simpa using hx) (by simpa using hy) ht he hs]
  simp only [bytes_ints_inj]
end Go.Proofs.YtfaiblngchdpmaaDoor
