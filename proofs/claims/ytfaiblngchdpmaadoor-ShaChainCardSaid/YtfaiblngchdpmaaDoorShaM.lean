/- SHA-256 as a plain function on lists of numbers (no dump is imported), and its examples. -/
import Derived.Test.YtfaiblngchdpmaaDoorNumP
namespace Go.Proofs.YtfaiblngchdpmaaDoor
open Go Go.Lib

def m32 : Nat := 4294967296
/-- Turned to the right. -/
def rotR (x n : Nat) : Nat := (x >>> n) ||| (x <<< (32 - n)) % m32
def sm0 (x : Nat) : Nat := rotR x 7 ^^^ rotR x 18 ^^^ (x >>> 3)
def sm1 (x : Nat) : Nat := rotR x 17 ^^^ rotR x 19 ^^^ (x >>> 10)
def la0 (x : Nat) : Nat := rotR x 2 ^^^ rotR x 13 ^^^ rotR x 22
def la1 (x : Nat) : Nat := rotR x 6 ^^^ rotR x 11 ^^^ rotR x 25
def kTab : List Nat := [
  0x428a2f98, 0x71374491, 0xb5c0fbcf, 0xe9b5dba5, 0x3956c25b, 0x59f111f1, 0x923f82a4, 0xab1c5ed5,
  0xd807aa98, 0x12835b01, 0x243185be, 0x550c7dc3, 0x72be5d74, 0x80deb1fe, 0x9bdc06a7, 0xc19bf174,
  0xe49b69c1, 0xefbe4786, 0x0fc19dc6, 0x240ca1cc, 0x2de92c6f, 0x4a7484aa, 0x5cb0a9dc, 0x76f988da,
  0x983e5152, 0xa831c66d, 0xb00327c8, 0xbf597fc7, 0xc6e00bf3, 0xd5a79147, 0x06ca6351, 0x14292967,
  0x27b70a85, 0x2e1b2138, 0x4d2c6dfc, 0x53380d13, 0x650a7354, 0x766a0abb, 0x81c2c92e, 0x92722c85,
  0xa2bfe8a1, 0xa81a664b, 0xc24b8b70, 0xc76c51a3, 0xd192e819, 0xd6990624, 0xf40e3585, 0x106aa070,
  0x19a4c116, 0x1e376c08, 0x2748774c, 0x34b0bcb5, 0x391c0cb3, 0x4ed8aa4a, 0x5b9cca4f, 0x682e6ff3,
  0x748f82ee, 0x78a5636f, 0x84c87814, 0x8cc70208, 0x90befffa, 0xa4506ceb, 0xbef9a3f7, 0xc67178f2]
def hTab : List Nat := [0x6a09e667, 0xbb67ae85, 0x3c6ef372, 0xa54ff53a, 0x510e527f, 0x9b05688c, 0x1f83d9ab, 0x5be0cd19]
/-- The i-th word of a block's first sixteen: the highest byte first. -/
def wordAt (b : List UInt8) (i : Nat) : Nat := beN ((b.drop (4 * i)).take 4)
def wNext (w : List Nat) (i : Nat) : Nat := (sm1 (w.getD (i - 2) 0) + w.getD (i - 7) 0 + sm0 (w.getD (i - 15) 0) + w.getD (i - 16) 0) % m32
/-- The words up to i, the first sixteen being laid. -/
def wTo (b : List UInt8) : Nat → List Nat
  | 0 => []
  | i + 1 => let w := wTo b i; w ++ [if i < 16 then wordAt b i else wNext w i]
def wordsOf (b : List UInt8) : List Nat := if b.length = 64 then wTo b 64 else List.replicate 64 0
def notN (x : Nat) : Nat := m32 - 1 - x
def chN (e f g : Nat) : Nat := (e &&& f) ^^^ (notN e &&& g)
def maN (a b c : Nat) : Nat := (a &&& b) ^^^ (a &&& c) ^^^ (b &&& c)
/-- One round. -/
def roundN (v : List Nat) (k w : Nat) : List Nat :=
  let a := v.getD 0 0; let b := v.getD 1 0; let c := v.getD 2 0; let d := v.getD 3 0
  let e := v.getD 4 0; let f := v.getD 5 0; let g := v.getD 6 0; let h := v.getD 7 0
  let t := (h + la1 e + chN e f g + k + w) % m32
  let u := (la0 a + maN a b c) % m32
  [(t + u) % m32, a, b, c, (d + t) % m32, e, f, g]
def roundsTo (h w : List Nat) : Nat → List Nat
  | 0 => h
  | i + 1 => roundN (roundsTo h w i) (kTab.getD i 0) (w.getD i 0)
def addAll (v h : List Nat) : List Nat := List.zipWith (fun x y => (x + y) % m32) v h
def turnOf (h : List Nat) (b : List UInt8) : List Nat := if b.length = 64 then addAll (roundsTo h (wTo b 64) 64) h else h
/-- How many zeros stand in what is behind n bytes. -/
def padZeros (n : Nat) : Nat := (119 - n % 64) % 64
def padOf (n : Nat) : List UInt8 := 128 :: (List.replicate (padZeros n) 0 ++ beB (8 * n) 8)
/-- The state behind so many blocks. -/
def blocksTo (l : List UInt8) : Nat → List Nat
  | 0 => hTab
  | i + 1 => turnOf (blocksTo l i) ((l.drop (64 * i)).take 64)
def digestOf (h : List Nat) : List UInt8 := (h.map fun x => beB x 4).flatten
def shaOf (l : List UInt8) : List UInt8 := digestOf (blocksTo (l ++ padOf l.length) ((l ++ padOf l.length).length / 64))

theorem padOf_length (n : Nat) : (padOf n).length = 9 + padZeros n := by simp [padOf]; omega
theorem padOf_whole (n : Nat) : (n + (padOf n).length) % 64 = 0 := by rw [padOf_length]; unfold padZeros; omega
theorem wTo_length (b : List UInt8) (i : Nat) : (wTo b i).length = i := by
  induction i with
  | zero => rfl
  | succ i ih => simp [wTo, ih]
theorem roundN_length (v : List Nat) (k w : Nat) : (roundN v k w).length = 8 := rfl
theorem roundsTo_length (h w : List Nat) (hh : h.length = 8) (i : Nat) : (roundsTo h w i).length = 8 := by
  cases i with
  | zero => exact hh
  | succ i => rfl
theorem addAll_length (v h : List Nat) (hv : v.length = 8) (hh : h.length = 8) : (addAll v h).length = 8 := by simp [addAll, hv, hh]
theorem turnOf_length (h : List Nat) (b : List UInt8) (hh : h.length = 8) : (turnOf h b).length = 8 := by
  unfold turnOf
  split
  · exact addAll_length _ _ (roundsTo_length _ _ hh _) hh
  · exact hh
theorem blocksTo_length (l : List UInt8) (i : Nat) : (blocksTo l i).length = 8 := by
  induction i with
  | zero => rfl
  | succ i ih => exact turnOf_length _ _ ih
theorem digestOf_length (h : List Nat) (hh : h.length = 8) : (digestOf h).length = 32 := by
  match h, hh with
  | [a, b, c, d, e, f, g, k], _ => simp [digestOf]
theorem shaOf_length (l : List UInt8) : (shaOf l).length = 32 := digestOf_length _ (blocksTo_length _ _)
theorem sha_abc : (shaOf [97, 98, 99]).take 4 = [0xBA, 0x78, 0x16, 0xBF] := by decide +kernel
theorem sha_none : (shaOf []).take 4 = [0xE3, 0xB0, 0xC4, 0x42] := by decide +kernel
/-- A chain behind so many links. -/
def chainTo (d : List UInt8) (a : List (List UInt8)) : Nat → List UInt8
  | 0 => d
  | i + 1 => shaOf (chainTo d a i ++ a.getD i [])
theorem chainTo_length (d : List UInt8) (a : List (List UInt8)) (hd : d.length = 32) (i : Nat) : (chainTo d a i).length = 32 := by
  cases i with
  | zero => exact hd
  | succ i => exact shaOf_length _
/-- Two chains of as many links that come to one digest: of the same, or two unlike texts that were summed have one sum. -/
theorem chain_collide (a b : List (List UInt8)) (c d : List UInt8) (hc : c.length = 32) (hd : d.length = 32) (n : Nat) (hp : chainTo c a n = chainTo d b n) (hne : ¬ (c = d ∧ ∀ i, i < n → a.getD i [] = b.getD i [])) :
    ∃ i, i < n ∧ chainTo c a i ++ a.getD i [] ≠ chainTo d b i ++ b.getD i [] ∧ shaOf (chainTo c a i ++ a.getD i []) = shaOf (chainTo d b i ++ b.getD i []) := by
  induction n with
  | zero => exact absurd ⟨hp, fun i hi => by omega⟩ hne
  | succ n ih =>
    by_cases hx : chainTo c a n ++ a.getD n [] = chainTo d b n ++ b.getD n []
    · have hl := List.append_inj hx (by rw [chainTo_length c a hc, chainTo_length d b hd])
      obtain ⟨i, hi, h⟩ := ih hl.1 (fun h => hne ⟨h.1, fun i hi => by
        rcases Nat.lt_succ_iff_lt_or_eq.1 hi with h2 | h2
        · exact h.2 i h2
        · rw [h2]; exact hl.2⟩)
      exact ⟨i, by omega, h⟩
    · exact ⟨n, by omega, hx, hp⟩
end Go.Proofs.YtfaiblngchdpmaaDoor
