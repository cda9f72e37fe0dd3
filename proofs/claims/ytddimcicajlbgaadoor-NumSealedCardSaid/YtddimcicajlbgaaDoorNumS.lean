/- Plain facts on bytes behind which their sum stands: no dump is imported. -/
import Derived.Test.YtddimcicajlbgaaDoorNumQ
namespace Go.Proofs.YtddimcicajlbgaaDoor
open Go Go.Lib

theorem sumTo_congr (a b : List UInt8) (n : Nat) (h : ∀ i, i < n → a[i]?.getD 0 = b[i]?.getD 0) : sumTo a n = sumTo b n := by
  induction n with
  | zero => rfl
  | succ n ih => simp only [sumTo, ih (fun i hi => h i (by omega)), h n (by omega)]
theorem fold16_mod (s : Nat) (h : 0 < s) : fold16 s = 65535 ↔ s % 65535 = 0 := by
  unfold fold16
  rw [if_neg (by omega)]
  omega
theorem be2 (c : Nat) (_h : c ≤ 65535) : beB c 2 = [UInt8.ofNat (c / 256), UInt8.ofNat c] := by simp [beB, leB, List.range_succ]
/-- The sum of bytes of an even number and of two more. -/
theorem sum_sealed (l : List UInt8) (c : Nat) (hc : c ≤ 65535) (he : l.length % 2 = 0) : sumTo (l ++ beB c 2) (l.length + 2) = sumTo l l.length + c := by
  have h1 : (l ++ beB c 2)[l.length]?.getD 0 = UInt8.ofNat (c / 256) := by rw [be2 c hc]; simp
  have h2 : (l ++ beB c 2)[l.length + 1]?.getD 0 = UInt8.ofNat c := by rw [be2 c hc]; simp
  have h3 : sumTo (l ++ beB c 2) l.length = sumTo l l.length := sumTo_congr _ _ _ (fun i hi => by rw [List.getElem?_append_left hi])
  show sumTo (l ++ beB c 2) l.length + _ + _ = _
  rw [h1, h2, h3, if_pos he, if_neg (by omega)]
  have e1 : (UInt8.ofNat (c / 256)).toNat = c / 256 := by simp; omega
  have e2 : (UInt8.ofNat c).toNat = c % 256 := by simp
  rw [e1, e2]
  omega
theorem sealed_mod (l : List UInt8) (he : l.length % 2 = 0) :
    0 < sumTo (l ++ beB (chk l) 2) (l.length + 2) ∧ sumTo (l ++ beB (chk l) 2) (l.length + 2) % 65535 = 0 := by
  rw [sum_sealed l (chk l) (chk_le l) he]
  unfold chk fold16
  split <;> omega
theorem chk_sealed (l : List UInt8) (he : l.length % 2 = 0) : chk (l ++ beB (chk l) 2) = 0 := by
  obtain ⟨h0, h1⟩ := sealed_mod l he
  show 65535 - fold16 (sumTo _ (l ++ beB (chk l) 2).length) = 0
  rw [show (l ++ beB (chk l) 2).length = l.length + 2 by simp, (fold16_mod _ h0).2 h1]
/-- What one byte that is another one does to the sum. -/
theorem sum_set (l : List UInt8) (j : Nat) (y : UInt8) (n : Nat) (hn : n ≤ l.length) (hj : j < n) :
    (sumTo (l.set j y) n : Int) = sumTo l n + (if j % 2 = 0 then 256 else 1) * ((y.toNat : Int) - ((l[j]?.getD 0).toNat : Int)) := by
  induction n with
  | zero => omega
  | succ n ih =>
    by_cases h : j = n
    · subst h
      have h1 : sumTo (l.set j y) j = sumTo l j := sumTo_congr _ _ _ (fun i hi => by rw [List.getElem?_set_ne (by omega)])
      have h2 : (l.set j y)[j]?.getD 0 = y := by rw [List.getElem?_set_self (by omega)]; rfl
      simp only [sumTo, h1, h2]
      split <;> omega
    · have h1 := ih (by omega) (by omega)
      have h2 : (l.set j y)[n]?.getD 0 = l[n]?.getD 0 := by rw [List.getElem?_set_ne (by omega)]
      simp only [sumTo, h2]
      generalize (l[n]?.getD 0).toNat = q at *
      split <;> omega
/-- Another byte shows: a byte turned by bits that are not none and not all. -/
theorem xor_differs (x b : UInt8) (h0 : b ≠ 0) (h1 : b ≠ 255) : x ^^^ b ≠ x ∧ ((x ^^^ b).toNat : Int) - (x.toNat : Int) < 255 ∧ -255 < ((x ^^^ b).toNat : Int) - (x.toNat : Int) := by
  have hall : ∀ x b : Fin 256, b.val ≠ 0 → b.val ≠ 255 → (x.val ^^^ b.val) ≠ x.val ∧ (x.val ^^^ b.val) < x.val + 255 ∧ x.val < (x.val ^^^ b.val) + 255 := by decide +kernel
  have hx := x.toNat_lt
  have hb := b.toNat_lt
  have h := hall ⟨x.toNat, hx⟩ ⟨b.toNat, hb⟩ (fun e => h0 (UInt8.toNat_inj.1 e)) (fun e => h1 (UInt8.toNat_inj.1 e))
  have e : (x ^^^ b).toNat = x.toNat ^^^ b.toNat := UInt8.toNat_xor ..
  simp only at h
  refine ⟨fun he => h.1 (by rw [← e, he]), by omega, by omega⟩
theorem chk_differs (l : List UInt8) (he : l.length % 2 = 0) (j : Nat) (b : UInt8) (hj : j < l.length + 2) (h0 : b ≠ 0) (h1 : b ≠ 255) :
    chk ((l ++ beB (chk l) 2).set j ((l ++ beB (chk l) 2)[j]?.getD 0 ^^^ b)) ≠ 0 := by
  obtain ⟨z0, z1⟩ := sealed_mod l he
  have hlen : (l ++ beB (chk l) 2).length = l.length + 2 := by simp
  generalize l ++ beB (chk l) 2 = s at *
  have hset := sum_set s j (s[j]?.getD 0 ^^^ b) s.length (Nat.le_refl _) (by omega)
  obtain ⟨d1, d2, d3⟩ := xor_differs (s[j]?.getD 0) b h0 h1
  have dne : ((s[j]?.getD 0 ^^^ b).toNat : Int) ≠ ((s[j]?.getD 0).toNat : Int) := fun e => d1 (UInt8.toNat_inj.1 (by omega))
  unfold chk
  rw [List.length_set]
  have hle := fold16_le (sumTo (s.set j (s[j]?.getD 0 ^^^ b)) s.length)
  rw [← hlen] at z0 z1
  intro hz
  have hf : fold16 (sumTo (s.set j (s[j]?.getD 0 ^^^ b)) s.length) = 65535 := by omega
  have hpos : 0 < sumTo (s.set j (s[j]?.getD 0 ^^^ b)) s.length := by
    rcases Nat.eq_zero_or_pos (sumTo (s.set j (s[j]?.getD 0 ^^^ b)) s.length) with e | e
    · rw [e] at hf; simp [fold16] at hf
    · exact e
  have hm := (fold16_mod _ hpos).1 hf
  generalize ((s[j]?.getD 0 ^^^ b).toNat : Int) = y at *
  generalize ((s[j]?.getD 0).toNat : Int) = x at *
  generalize sumTo (s.set j (s[j]?.getD 0 ^^^ b)) s.length = A at *
  generalize sumTo s s.length = B at *
  split at hset <;> omega
end Go.Proofs.YtddimcicajlbgaaDoor
