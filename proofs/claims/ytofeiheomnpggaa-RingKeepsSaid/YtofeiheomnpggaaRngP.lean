/- Plain: where a ring's parts lie, what is read of them, and what memory becomes. -/
import Derived.Test.YtofeiheomnpggaaMemP
namespace Go.Proofs.Ytofeiheomnpggaa

theorem leB_congr {n m k : Nat} (h : n % 256 ^ k = m % 256 ^ k) : leB n k = leB m k := by
  induction k with
  | zero => simp [leB]
  | succ k ih =>
    have h1 : n % 256 ^ k = m % 256 ^ k := by
      have e1 := Nat.mod_mul_right_mod n (256 ^ k) 256
      have e2 := Nat.mod_mul_right_mod m (256 ^ k) 256
      rw [← Nat.pow_succ] at e1 e2
      rw [← e1, ← e2, h]
    have h2 : n / 256 ^ k % 256 = m / 256 ^ k % 256 := by
      have e1 := Nat.mod_mul_right_div_self n (256 ^ k) 256
      have e2 := Nat.mod_mul_right_div_self m (256 ^ k) 256
      rw [← Nat.pow_succ] at e1 e2
      rw [← e1, ← e2, h]
    rw [leB_succ, leB_succ, ih h1]
    congr 2
    apply UInt8.toNat_inj.1
    simpa using h2
theorem leN_leBk (n k : Nat) : leN (leB n k) = n % 256 ^ k := by
  induction k with
  | zero => simp [leB, leN, Nat.mod_one]
  | succ k ih =>
    rw [leB_succ, leN_snoc, ih, leB_length, Nat.pow_succ]
    have h := Nat.mod_mul (x := n) (a := 256 ^ k) (b := 256)
    rw [h]
    have h2 : (UInt8.ofNat (n / 256 ^ k)).toNat = n / 256 ^ k % 256 := by simp
    rw [h2, Nat.mul_comm]
theorem leB_leN (l : List UInt8) (k : Nat) (h : l.length = k) : leB (leN l) k = l := by
  subst h
  induction hl : l.length generalizing l with
  | zero =>
    obtain rfl := List.eq_nil_of_length_eq_zero hl
    rfl
  | succ n ih =>
    obtain ⟨a, b, rfl⟩ : ∃ a b, l = a ++ [b] := ⟨l.dropLast, l.getLast (by intro h; simp [h] at hl), (List.dropLast_concat_getLast _).symm⟩
    have ha : a.length = n := by simpa using hl
    have hp : 0 < 256 ^ n := Nat.pow_pos (by decide)
    have hlt := leN_lt a
    rw [ha] at hlt
    rw [leB_succ, leN_snoc, ha]
    have h1 : leB (leN a + b.toNat * 256 ^ n) n = leB (leN a) n := leB_congr (by rw [Nat.add_mul_mod_self_right])
    rw [h1, ih a ha]
    have h2 : (leN a + b.toNat * 256 ^ n) / 256 ^ n = b.toNat := by
      rw [Nat.add_mul_div_right _ _ hp, Nat.div_eq_of_lt hlt, Nat.zero_add]
    rw [h2]
    simp

/-- A number of k bytes at the place p; what memory becomes when one is put there. -/
def numAt (l : List UInt8) (p k : Nat) : Nat := leN ((l.drop p).take k)
def putAt (l : List UInt8) (p k x : Nat) : List UInt8 := l.take p ++ leB x k ++ l.drop (p + k)
theorem putAt_length {l : List UInt8} {p k : Nat} (x : Nat) (h : p + k ≤ l.length) : (putAt l p k x).length = l.length := by
  simp [putAt]
  omega
theorem numAt_lt (l : List UInt8) (p k : Nat) : numAt l p k < 256 ^ k := by
  unfold numAt
  refine Nat.lt_of_lt_of_le (leN_lt _) (Nat.pow_le_pow_right (by decide) ?_)
  simp
  omega
theorem putAt_get {l : List UInt8} {p k : Nat} (x : Nat) (h : p + k ≤ l.length) (i : Nat) : (putAt l p k x)[i]? = if i < p then l[i]? else if i < p + k then (leB x k)[i - p]? else l[i]? := by
  have h1 : (l.take p).length = p := by simp; omega
  have h2 : (l.take p ++ leB x k).length = p + k := by simp; omega
  unfold putAt
  by_cases c1 : i < p
  · rw [if_pos c1, List.getElem?_append_left (by omega), List.getElem?_append_left (by omega), List.getElem?_take, if_pos c1]
  · rw [if_neg c1]
    by_cases c2 : i < p + k
    · rw [if_pos c2, List.getElem?_append_left (by omega), List.getElem?_append_right (by omega), h1]
    · rw [if_neg c2, List.getElem?_append_right (by omega), h2, List.getElem?_drop, show p + k + (i - (p + k)) = i by omega]
theorem part_same {l : List UInt8} {p k : Nat} (x : Nat) (h : p + k ≤ l.length) : ((putAt l p k x).drop p).take k = leB x k := by
  have h1 : (l.take p).length = p := by simp; omega
  unfold putAt
  rw [List.append_assoc, List.drop_append_of_le_length (by omega), List.drop_eq_nil_of_le (by omega), List.nil_append, List.take_append_of_le_length (by simp), List.take_of_length_le (by simp)]
theorem part_other {l : List UInt8} {p k : Nat} (x : Nat) (h : p + k ≤ l.length) {q j : Nat} (hd : q + j ≤ p ∨ p + k ≤ q) : ((putAt l p k x).drop q).take j = (l.drop q).take j := by
  apply List.ext_getElem?
  intro i
  rw [List.getElem?_take, List.getElem?_take]
  by_cases hi : i < j
  · rw [if_pos hi, if_pos hi, List.getElem?_drop, List.getElem?_drop, putAt_get x h]
    rcases hd with hd | hd
    · rw [if_pos (by omega)]
    · rw [if_neg (by omega), if_neg (by omega)]
  · rw [if_neg hi, if_neg hi]
theorem numAt_same {l : List UInt8} {p k : Nat} (x : Nat) (h : p + k ≤ l.length) : numAt (putAt l p k x) p k = x % 256 ^ k := by
  rw [numAt, part_same x h, leN_leBk]
theorem numAt_other {l : List UInt8} {p k : Nat} (x : Nat) (h : p + k ≤ l.length) {q j : Nat} (hd : q + j ≤ p ∨ p + k ≤ q) : numAt (putAt l p k x) q j = numAt l q j := by
  rw [numAt, part_other x h hd, numAt]
theorem putAt_self {l : List UInt8} {p k : Nat} (h : p + k ≤ l.length) : putAt l p k (numAt l p k) = l := by
  have h1 : ((l.drop p).take k).length = k := by simp; omega
  unfold putAt numAt
  rw [leB_leN _ k h1, List.append_assoc, show l.drop (p + k) = (l.drop p).drop k by rw [List.drop_drop], List.take_append_drop, List.take_append_drop]
theorem putAt_mod (l : List UInt8) (p k : Nat) {x y : Nat} (h : x % 256 ^ k = y % 256 ^ k) : putAt l p k x = putAt l p k y := by
  unfold putAt
  rw [leB_congr h]
theorem putAt_take {l : List UInt8} {p k : Nat} (x : Nat) (h : p + k ≤ l.length) {m : Nat} (hm : m ≤ p) : (putAt l p k x).take m = l.take m := by
  unfold putAt
  rw [List.append_assoc, List.take_append_of_le_length (by simp; omega), List.take_take, Nat.min_eq_left hm]
theorem putAt_drop {l : List UInt8} {p k : Nat} (x : Nat) (h : p + k ≤ l.length) {m : Nat} (hm : p + k ≤ m) : (putAt l p k x).drop m = l.drop m := by
  apply List.ext_getElem?
  intro i
  rw [List.getElem?_drop, List.getElem?_drop, putAt_get x h, if_neg (by omega), if_neg (by omega)]

/-- How many descriptors a ring may have; where what is used begins; how many bytes there are. -/
def RightN (N : Nat) : Prop := N = 1 ∨ N = 2 ∨ N = 4 ∨ N = 8 ∨ N = 16
theorem RightN.le {N : Nat} (h : RightN N) : 1 ≤ N ∧ N ≤ 16 := by unfold RightN at h; omega
def rightB (z : Int) : Bool := decide (z = 1 ∨ z = 2 ∨ z = 4 ∨ z = 8 ∨ z = 16)
theorem rightB_of {N : Nat} (h : RightN N) : rightB (N : Int) = true := decide_eq_true (by unfold RightN at h; omega)
theorem right_of {z : Int} (h : rightB z = true) : ∃ N : Nat, z = N ∧ RightN N := by
  have h := of_decide_eq_true h
  exact ⟨z.toNat, by omega, by unfold RightN; omega⟩
def secN (N : Nat) : Nat := (18 * N + 7) / 4 * 4
def sizeN (N : Nat) : Nat := secN N + 4 + 8 * N
def sizeZ (z : Int) : Int := if rightB z = true then (sizeN z.toNat : Nat) else 0
theorem sizeZ_of {N : Nat} (h : RightN N) : sizeZ (N : Int) = (sizeN N : Nat) := by rw [sizeZ, if_pos (rightB_of h), Int.toNat_natCast]
theorem sizeZ_not {z : Int} (h : rightB z = false) : sizeZ z = 0 := by rw [sizeZ, if_neg (by rw [h]; decide)]
theorem sizeN_le (N : Nat) : 18 * N + 4 ≤ secN N ∧ secN N ≤ 18 * N + 7 ∧ sizeN N = secN N + 4 + 8 * N := by
  unfold sizeN secN
  omega
/-- May there be one? -/
def okR (L : Nat) (b z : Int) : Bool := decide (L ≤ 8192) && (rightB z && decide (0 ≤ b ∧ b ≤ (L : Int) - sizeZ z))
def ringF (L : Nat) (b z : Int) : Int := if okR L b z = true then 0 else 70
def descF (L : Nat) (b z i : Int) : Int := if okR L b z = true then (if 0 ≤ i ∧ i < z then 0 else 2) else 70
structure RingOk (L B N : Nat) : Prop where
  few : L ≤ 8192
  right : RightN N
  fits : B + sizeN N ≤ L
theorem RingOk.ok {L B N : Nat} (h : RingOk L B N) : okR L (B : Int) (N : Int) = true := by
  have h1 := h.fits
  unfold okR
  rw [decide_eq_true h.few, rightB_of h.right, decide_eq_true]
  · rfl
  · rw [sizeZ_of h.right]; omega
theorem ok_of {L : Nat} {b z : Int} (h : okR L b z = true) : ∃ B N : Nat, b = B ∧ z = N ∧ RingOk L B N := by
  unfold okR at h
  rw [Bool.and_eq_true, Bool.and_eq_true] at h
  obtain ⟨h1, h2, h3⟩ := h
  have h1 := of_decide_eq_true h1
  obtain ⟨N, rfl, hN⟩ := right_of h2
  have h3 := of_decide_eq_true h3
  rw [sizeZ_of hN] at h3
  exact ⟨b.toNat, N, by omega, rfl, h1, hN, by omega⟩
theorem ring_cases (L : Nat) (b z : Int) : (okR L b z = false ∧ ringF L b z = 70) ∨ ∃ B N : Nat, b = B ∧ z = N ∧ RingOk L B N ∧ ringF L b z = 0 := by
  cases h : okR L b z with
  | false => exact .inl ⟨rfl, by rw [ringF, h]; rfl⟩
  | true =>
    obtain ⟨B, N, h1, h2, h3⟩ := ok_of h
    exact .inr ⟨B, N, h1, h2, h3, by rw [ringF, h]; rfl⟩
theorem desc_cases (L : Nat) (b z i : Int) : (okR L b z = false ∧ descF L b z i = 70) ∨ (okR L b z = true ∧ ¬ (0 ≤ i ∧ i < z) ∧ descF L b z i = 2) ∨ ∃ B N I : Nat, b = B ∧ z = N ∧ i = I ∧ I < N ∧ RingOk L B N ∧ descF L b z i = 0 := by
  cases h : okR L b z with
  | false => exact .inl ⟨rfl, by rw [descF, h]; rfl⟩
  | true =>
    by_cases hi : 0 ≤ i ∧ i < z
    · obtain ⟨B, N, h1, h2, h3⟩ := ok_of h
      exact .inr (.inr ⟨B, N, i.toNat, h1, h2, by omega, by omega, h3, by rw [descF, if_pos h, if_pos hi]⟩)
    · exact .inr (.inl ⟨rfl, hi, by rw [descF, if_pos h, if_neg hi]⟩)

/-- The answers. -/
def descX (l : List UInt8) (b z i : Int) (o k : Nat) : Nat := if descF l.length b z i = 0 then numAt l (b.toNat + 16 * i.toNat + o) k else 0
def setD (l : List UInt8) (p a n f x : Nat) : List UInt8 := putAt (putAt (putAt (putAt l p 8 a) (p + 8) 4 n) (p + 12) 2 f) (p + 14) 2 x
def setX (l : List UInt8) (b z i : Int) (a n f x : Nat) : List UInt8 := if descF l.length b z i = 0 then setD l (b.toNat + 16 * i.toNat) a n f x else l
def availX (l : List UInt8) (b z : Int) : Nat := if ringF l.length b z = 0 then numAt l (b.toNat + 16 * z.toNat + 2) 2 else 0
def availAtX (l : List UInt8) (b z : Int) (at_ : Nat) : Nat := if ringF l.length b z = 0 then numAt l (b.toNat + 16 * z.toNat + 4 + 2 * (at_ % z.toNat)) 2 else 0
def offerD (l : List UInt8) (B N at_ h : Nat) : List UInt8 := putAt (putAt l (B + 16 * N + 4 + 2 * (at_ % N)) 2 h) (B + 16 * N + 2) 2 (at_ + 1)
def offerX (l : List UInt8) (b z : Int) (at_ : Nat) (h : Int) : List UInt8 := if ringF l.length b z = 0 then offerD l b.toNat z.toNat at_ (h % 65536).toNat else l
def usedX (l : List UInt8) (b z : Int) : Nat := if ringF l.length b z = 0 then numAt l (b.toNat + secN z.toNat + 2) 2 else 0
def usedAtX (l : List UInt8) (b z : Int) (at_ o : Nat) : Nat := if ringF l.length b z = 0 then numAt l (b.toNat + secN z.toNat + 4 + 8 * (at_ % z.toNat) + o) 4 else 0
def returnD (l : List UInt8) (B N at_ a n : Nat) : List UInt8 := putAt (putAt (putAt l (B + secN N + 4 + 8 * (at_ % N)) 4 a) (B + secN N + 4 + 8 * (at_ % N) + 4) 4 n) (B + secN N + 2) 2 (at_ + 1)
def returnX (l : List UInt8) (b z : Int) (at_ a n : Nat) : List UInt8 := if ringF l.length b z = 0 then returnD l b.toNat z.toNat at_ a n else l
end Go.Proofs.Ytofeiheomnpggaa
