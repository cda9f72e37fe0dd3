/- Plain: what is set, offered, returned is there; all else stays. -/
import Derived.Test.YtofeiheomnpggaaRngP
namespace Go.Proofs.Ytofeiheomnpggaa

theorem mod_small {a b : Nat} (h : a < b) : a % b = a := Nat.mod_eq_of_lt h
theorem setD_length {l : List UInt8} {p : Nat} (a n f x : Nat) (h : p + 16 ≤ l.length) : (setD l p a n f x).length = l.length := by
  unfold setD
  have h1 := putAt_length (l := l) (p := p) (k := 8) a (by omega)
  have h2 := putAt_length (l := putAt l p 8 a) (p := p + 8) (k := 4) n (by omega)
  have h3 := putAt_length (l := putAt (putAt l p 8 a) (p + 8) 4 n) (p := p + 12) (k := 2) f (by omega)
  rw [putAt_length x (by omega), h3, h2, h1]
theorem setD_other {l : List UInt8} {p q j : Nat} (a n f x : Nat) (h : p + 16 ≤ l.length) (hd : q + j ≤ p ∨ p + 16 ≤ q) : numAt (setD l p a n f x) q j = numAt l q j := by
  unfold setD
  have h1 := putAt_length (l := l) (p := p) (k := 8) a (by omega)
  have h2 := putAt_length (l := putAt l p 8 a) (p := p + 8) (k := 4) n (by omega)
  have h3 := putAt_length (l := putAt (putAt l p 8 a) (p + 8) 4 n) (p := p + 12) (k := 2) f (by omega)
  rw [numAt_other x (by omega) (by omega), numAt_other f (by omega) (by omega), numAt_other n (by omega) (by omega), numAt_other a (by omega) (by omega)]
theorem setD_there {l : List UInt8} {p : Nat} (a n f x : Nat) (h : p + 16 ≤ l.length) (ha : a < 18446744073709551616) (hn : n < 4294967296) (hf : f < 65536) (hx : x < 65536) :
    numAt (setD l p a n f x) p 8 = a ∧ numAt (setD l p a n f x) (p + 8) 4 = n ∧ numAt (setD l p a n f x) (p + 12) 2 = f ∧ numAt (setD l p a n f x) (p + 14) 2 = x := by
  unfold setD
  have h1 := putAt_length (l := l) (p := p) (k := 8) a (by omega)
  have h2 := putAt_length (l := putAt l p 8 a) (p := p + 8) (k := 4) n (by omega)
  have h3 := putAt_length (l := putAt (putAt l p 8 a) (p + 8) 4 n) (p := p + 12) (k := 2) f (by omega)
  refine ⟨?_, ?_, ?_, ?_⟩
  · rw [numAt_other x (by omega) (by omega), numAt_other f (by omega) (by omega), numAt_other n (by omega) (by omega), numAt_same a (by omega)]
    exact mod_small ha
  · rw [numAt_other x (by omega) (by omega), numAt_other f (by omega) (by omega), numAt_same n (by omega)]
    exact mod_small hn
  · rw [numAt_other x (by omega) (by omega), numAt_same f (by omega)]
    exact mod_small hf
  · rw [numAt_same x (by omega)]
    exact mod_small hx
theorem setD_take {l : List UInt8} {p m : Nat} (a n f x : Nat) (h : p + 16 ≤ l.length) (hm : m ≤ p) : (setD l p a n f x).take m = l.take m := by
  unfold setD
  have h1 := putAt_length (l := l) (p := p) (k := 8) a (by omega)
  have h2 := putAt_length (l := putAt l p 8 a) (p := p + 8) (k := 4) n (by omega)
  have h3 := putAt_length (l := putAt (putAt l p 8 a) (p + 8) 4 n) (p := p + 12) (k := 2) f (by omega)
  rw [putAt_take x (by omega) (by omega), putAt_take f (by omega) (by omega), putAt_take n (by omega) (by omega), putAt_take a (by omega) (by omega)]
theorem setD_drop {l : List UInt8} {p m : Nat} (a n f x : Nat) (h : p + 16 ≤ l.length) (hm : p + 16 ≤ m) : (setD l p a n f x).drop m = l.drop m := by
  unfold setD
  have h1 := putAt_length (l := l) (p := p) (k := 8) a (by omega)
  have h2 := putAt_length (l := putAt l p 8 a) (p := p + 8) (k := 4) n (by omega)
  have h3 := putAt_length (l := putAt (putAt l p 8 a) (p + 8) 4 n) (p := p + 12) (k := 2) f (by omega)
  rw [putAt_drop x (by omega) (by omega), putAt_drop f (by omega) (by omega), putAt_drop n (by omega) (by omega), putAt_drop a (by omega) (by omega)]

/-- Where the parts of a ring lie. -/
theorem RingOk.lie {L B N : Nat} (h : RingOk L B N) : 1 ≤ N ∧ N ≤ 16 ∧ 18 * N + 4 ≤ secN N ∧ B + secN N + 4 + 8 * N ≤ L ∧ L ≤ 8192 := by
  have h1 := h.right.le
  have h2 := sizeN_le N
  have h3 := h.fits
  exact ⟨h1.1, h1.2, h2.1, by omega, h.few⟩
theorem mod_in {k N : Nat} (h : 1 ≤ N) : k % N < N := Nat.mod_lt _ h

theorem offerD_length {l : List UInt8} {B N : Nat} (k h : Nat) (hok : RingOk l.length B N) : (offerD l B N k h).length = l.length := by
  obtain ⟨h1, h2, h3, h4, h5⟩ := hok.lie
  have h6 := mod_in (k := k) h1
  have h7 := putAt_length (l := l) (p := B + 16 * N + 4 + 2 * (k % N)) (k := 2) h (by omega)
  rw [offerD, putAt_length _ (by omega), h7]
theorem offerD_other {l : List UInt8} {B N q j : Nat} (k h : Nat) (hok : RingOk l.length B N) (hd : q + j ≤ B + 16 * N + 2 ∨ B + secN N ≤ q) : numAt (offerD l B N k h) q j = numAt l q j := by
  obtain ⟨h1, h2, h3, h4, h5⟩ := hok.lie
  have h6 := mod_in (k := k) h1
  have h7 := putAt_length (l := l) (p := B + 16 * N + 4 + 2 * (k % N)) (k := 2) h (by omega)
  rw [offerD, numAt_other _ (by omega) (by omega), numAt_other _ (by omega) (by omega)]
theorem offerD_index {l : List UInt8} {B N : Nat} (k h : Nat) (hok : RingOk l.length B N) : numAt (offerD l B N k h) (B + 16 * N + 2) 2 = (k + 1) % 65536 := by
  obtain ⟨h1, h2, h3, h4, h5⟩ := hok.lie
  have h6 := mod_in (k := k) h1
  have h7 := putAt_length (l := l) (p := B + 16 * N + 4 + 2 * (k % N)) (k := 2) h (by omega)
  rw [offerD, numAt_same _ (by omega)]
theorem offerD_entry {l : List UInt8} {B N : Nat} (k k2 h : Nat) (hk : k2 % N = k % N) (hh : h < 65536) (hok : RingOk l.length B N) : numAt (offerD l B N k h) (B + 16 * N + 4 + 2 * (k2 % N)) 2 = h := by
  obtain ⟨h1, h2, h3, h4, h5⟩ := hok.lie
  have h6 := mod_in (k := k) h1
  have h7 := putAt_length (l := l) (p := B + 16 * N + 4 + 2 * (k % N)) (k := 2) h (by omega)
  rw [hk, offerD, numAt_other _ (by omega) (by omega), numAt_same _ (by omega)]
  exact mod_small hh
theorem offerD_take {l : List UInt8} {B N m : Nat} (k h : Nat) (hok : RingOk l.length B N) (hm : m ≤ B) : (offerD l B N k h).take m = l.take m := by
  obtain ⟨h1, h2, h3, h4, h5⟩ := hok.lie
  have h6 := mod_in (k := k) h1
  have h7 := putAt_length (l := l) (p := B + 16 * N + 4 + 2 * (k % N)) (k := 2) h (by omega)
  rw [offerD, putAt_take _ (by omega) (by omega), putAt_take _ (by omega) (by omega)]
theorem offerD_drop {l : List UInt8} {B N m : Nat} (k h : Nat) (hok : RingOk l.length B N) (hm : B + secN N ≤ m) : (offerD l B N k h).drop m = l.drop m := by
  obtain ⟨h1, h2, h3, h4, h5⟩ := hok.lie
  have h6 := mod_in (k := k) h1
  have h7 := putAt_length (l := l) (p := B + 16 * N + 4 + 2 * (k % N)) (k := 2) h (by omega)
  rw [offerD, putAt_drop _ (by omega) (by omega), putAt_drop _ (by omega) (by omega)]

theorem returnD_length {l : List UInt8} {B N : Nat} (k a n : Nat) (hok : RingOk l.length B N) : (returnD l B N k a n).length = l.length := by
  obtain ⟨h1, h2, h3, h4, h5⟩ := hok.lie
  have h6 := mod_in (k := k) h1
  have h7 := putAt_length (l := l) (p := B + secN N + 4 + 8 * (k % N)) (k := 4) a (by omega)
  have h8 := putAt_length (l := putAt l (B + secN N + 4 + 8 * (k % N)) 4 a) (p := B + secN N + 4 + 8 * (k % N) + 4) (k := 4) n (by omega)
  rw [returnD, putAt_length _ (by omega), h8, h7]
theorem returnD_other {l : List UInt8} {B N q j : Nat} (k a n : Nat) (hok : RingOk l.length B N) (hd : q + j ≤ B + secN N + 2 ∨ (B + secN N + 4 ≤ q ∧ (q + j ≤ B + secN N + 4 + 8 * (k % N) ∨ B + secN N + 4 + 8 * (k % N) + 8 ≤ q))) : numAt (returnD l B N k a n) q j = numAt l q j := by
  obtain ⟨h1, h2, h3, h4, h5⟩ := hok.lie
  have h6 := mod_in (k := k) h1
  have h7 := putAt_length (l := l) (p := B + secN N + 4 + 8 * (k % N)) (k := 4) a (by omega)
  have h8 := putAt_length (l := putAt l (B + secN N + 4 + 8 * (k % N)) 4 a) (p := B + secN N + 4 + 8 * (k % N) + 4) (k := 4) n (by omega)
  rw [returnD, numAt_other _ (by omega) (by omega), numAt_other _ (by omega) (by omega), numAt_other _ (by omega) (by omega)]
theorem returnD_index {l : List UInt8} {B N : Nat} (k a n : Nat) (hok : RingOk l.length B N) : numAt (returnD l B N k a n) (B + secN N + 2) 2 = (k + 1) % 65536 := by
  obtain ⟨h1, h2, h3, h4, h5⟩ := hok.lie
  have h6 := mod_in (k := k) h1
  have h7 := putAt_length (l := l) (p := B + secN N + 4 + 8 * (k % N)) (k := 4) a (by omega)
  have h8 := putAt_length (l := putAt l (B + secN N + 4 + 8 * (k % N)) 4 a) (p := B + secN N + 4 + 8 * (k % N) + 4) (k := 4) n (by omega)
  rw [returnD, numAt_same _ (by omega)]
theorem returnD_entry {l : List UInt8} {B N : Nat} (k k2 a n : Nat) (hk : k2 % N = k % N) (ha : a < 4294967296) (hn : n < 4294967296) (hok : RingOk l.length B N) :
    numAt (returnD l B N k a n) (B + secN N + 4 + 8 * (k2 % N)) 4 = a ∧ numAt (returnD l B N k a n) (B + secN N + 4 + 8 * (k2 % N) + 4) 4 = n := by
  obtain ⟨h1, h2, h3, h4, h5⟩ := hok.lie
  have h6 := mod_in (k := k) h1
  have h7 := putAt_length (l := l) (p := B + secN N + 4 + 8 * (k % N)) (k := 4) a (by omega)
  have h8 := putAt_length (l := putAt l (B + secN N + 4 + 8 * (k % N)) 4 a) (p := B + secN N + 4 + 8 * (k % N) + 4) (k := 4) n (by omega)
  rw [hk, returnD]
  refine ⟨?_, ?_⟩
  · rw [numAt_other _ (by omega) (by omega), numAt_other _ (by omega) (by omega), numAt_same _ (by omega)]
    exact mod_small ha
  · rw [numAt_other _ (by omega) (by omega), numAt_same _ (by omega)]
    exact mod_small hn
theorem returnD_take {l : List UInt8} {B N m : Nat} (k a n : Nat) (hok : RingOk l.length B N) (hm : m ≤ B) : (returnD l B N k a n).take m = l.take m := by
  obtain ⟨h1, h2, h3, h4, h5⟩ := hok.lie
  have h6 := mod_in (k := k) h1
  have h7 := putAt_length (l := l) (p := B + secN N + 4 + 8 * (k % N)) (k := 4) a (by omega)
  have h8 := putAt_length (l := putAt l (B + secN N + 4 + 8 * (k % N)) 4 a) (p := B + secN N + 4 + 8 * (k % N) + 4) (k := 4) n (by omega)
  rw [returnD, putAt_take _ (by omega) (by omega), putAt_take _ (by omega) (by omega), putAt_take _ (by omega) (by omega)]
theorem returnD_drop {l : List UInt8} {B N m : Nat} (k a n : Nat) (hok : RingOk l.length B N) (hm : B + sizeN N ≤ m) : (returnD l B N k a n).drop m = l.drop m := by
  obtain ⟨h1, h2, h3, h4, h5⟩ := hok.lie
  have h6 := mod_in (k := k) h1
  have h9 := sizeN_le N
  have h7 := putAt_length (l := l) (p := B + secN N + 4 + 8 * (k % N)) (k := 4) a (by omega)
  have h8 := putAt_length (l := putAt l (B + secN N + 4 + 8 * (k % N)) 4 a) (p := B + secN N + 4 + 8 * (k % N) + 4) (k := 4) n (by omega)
  rw [returnD, putAt_drop _ (by omega) (by omega), putAt_drop _ (by omega) (by omega), putAt_drop _ (by omega) (by omega)]

/-- The answers, where a ring is right. -/
theorem ringF_ok {l : List UInt8} {B N : Nat} (h : RingOk l.length B N) : ringF l.length (B : Int) (N : Int) = 0 := by rw [ringF, if_pos h.ok]
theorem descF_ok {l : List UInt8} {B N I : Nat} (h : RingOk l.length B N) (hi : I < N) : descF l.length (B : Int) (N : Int) (I : Int) = 0 := by rw [descF, if_pos h.ok, if_pos (by omega)]
theorem descX_ok {l : List UInt8} {B N I : Nat} (h : RingOk l.length B N) (hi : I < N) (o k : Nat) : descX l (B : Int) (N : Int) (I : Int) o k = numAt l (B + 16 * I + o) k := by rw [descX, if_pos (descF_ok h hi), Int.toNat_natCast, Int.toNat_natCast]
theorem setX_ok {l : List UInt8} {B N I : Nat} (h : RingOk l.length B N) (hi : I < N) (a n f x : Nat) : setX l (B : Int) (N : Int) (I : Int) a n f x = setD l (B + 16 * I) a n f x := by rw [setX, if_pos (descF_ok h hi), Int.toNat_natCast, Int.toNat_natCast]
theorem availX_ok {l : List UInt8} {B N : Nat} (h : RingOk l.length B N) : availX l (B : Int) (N : Int) = numAt l (B + 16 * N + 2) 2 := by rw [availX, if_pos (ringF_ok h), Int.toNat_natCast, Int.toNat_natCast]
theorem availAtX_ok {l : List UInt8} {B N : Nat} (h : RingOk l.length B N) (k : Nat) : availAtX l (B : Int) (N : Int) k = numAt l (B + 16 * N + 4 + 2 * (k % N)) 2 := by rw [availAtX, if_pos (ringF_ok h), Int.toNat_natCast, Int.toNat_natCast]
theorem offerX_ok {l : List UInt8} {B N : Nat} (h : RingOk l.length B N) (k : Nat) (z : Int) : offerX l (B : Int) (N : Int) k z = offerD l B N k (z % 65536).toNat := by rw [offerX, if_pos (ringF_ok h), Int.toNat_natCast, Int.toNat_natCast]
theorem usedX_ok {l : List UInt8} {B N : Nat} (h : RingOk l.length B N) : usedX l (B : Int) (N : Int) = numAt l (B + secN N + 2) 2 := by rw [usedX, if_pos (ringF_ok h), Int.toNat_natCast, Int.toNat_natCast]
theorem usedAtX_ok {l : List UInt8} {B N : Nat} (h : RingOk l.length B N) (k o : Nat) : usedAtX l (B : Int) (N : Int) k o = numAt l (B + secN N + 4 + 8 * (k % N) + o) 4 := by rw [usedAtX, if_pos (ringF_ok h), Int.toNat_natCast, Int.toNat_natCast]
theorem returnX_ok {l : List UInt8} {B N : Nat} (h : RingOk l.length B N) (k a n : Nat) : returnX l (B : Int) (N : Int) k a n = returnD l B N k a n := by rw [returnX, if_pos (ringF_ok h), Int.toNat_natCast, Int.toNat_natCast]
theorem offerX_length (l : List UInt8) (b z : Int) (k : Nat) (h : Int) : (offerX l b z k h).length = l.length := by
  rcases ring_cases l.length b z with ⟨_, h1⟩ | ⟨B, N, rfl, rfl, hok, _⟩
  · rw [offerX, if_neg (by rw [h1]; decide)]
  · rw [offerX_ok hok, offerD_length _ _ hok]
theorem returnX_length (l : List UInt8) (b z : Int) (k a n : Nat) : (returnX l b z k a n).length = l.length := by
  rcases ring_cases l.length b z with ⟨_, h1⟩ | ⟨B, N, rfl, rfl, hok, _⟩
  · rw [returnX, if_neg (by rw [h1]; decide)]
  · rw [returnX_ok hok, returnD_length _ _ _ hok]
theorem setX_length (l : List UInt8) (b z i : Int) (a n f x : Nat) : (setX l b z i a n f x).length = l.length := by
  rcases desc_cases l.length b z i with ⟨_, h⟩ | ⟨_, _, h⟩ | ⟨B, N, I, rfl, rfl, rfl, hI, hok, h⟩
  · rw [setX, if_neg (by rw [h]; decide)]
  · rw [setX, if_neg (by rw [h]; decide)]
  · have h1 := hok.lie
    rw [setX_ok hok hI, setD_length _ _ _ _ (by omega)]
end Go.Proofs.Ytofeiheomnpggaa
