/- Plain: what disks answer, and become. -/
import Derived.Test.YtaamjpcpdlanhaaNumP
namespace Go.Proofs.Ytaamjpcpdlanhaa

def chkB (S : List (List UInt8)) (C : List (Int × List UInt8)) : Bool :=
  decide (S.length ≤ 256) && decide (C.length ≤ 512) && S.all (fun l => decide (l.length = 256)) && C.all (fun x => decide (0 ≤ x.1 ∧ x.1 < (S.length : Int) ∧ x.2.length = 256))
theorem chk_true {S : List (List UInt8)} {C : List (Int × List UInt8)} : chkB S C = true ↔ S.length ≤ 256 ∧ C.length ≤ 512 ∧ (∀ l ∈ S, l.length = 256) ∧ ∀ x ∈ C, 0 ≤ x.1 ∧ x.1 < (S.length : Int) ∧ x.2.length = 256 := by
  simp only [chkB, Bool.and_eq_true, decide_eq_true_eq, List.all_eq_true, and_assoc]
theorem chk_false {S : List (List UInt8)} {C : List (Int × List UInt8)} (h : ¬ (S.length ≤ 256 ∧ C.length ≤ 512 ∧ (∀ l ∈ S, l.length = 256) ∧ ∀ x ∈ C, 0 ≤ x.1 ∧ x.1 < (S.length : Int) ∧ x.2.length = 256)) : chkB S C = false := by
  rw [← Bool.not_eq_true, chk_true]
  exact h
def dFault (S : List (List UInt8)) (C : List (Int × List UInt8)) (a : Int) : Int := if chkB S C = true then (if 0 ≤ a ∧ a < (S.length : Int) then 0 else 50) else 3
theorem dFault_cases (S : List (List UInt8)) (C : List (Int × List UInt8)) (a : Int) :
    (dFault S C a = 3 ∧ chkB S C = false) ∨ (dFault S C a = 50 ∧ chkB S C = true ∧ ¬ (0 ≤ a ∧ a < (S.length : Int))) ∨ (dFault S C a = 0 ∧ chkB S C = true ∧ 0 ≤ a ∧ a < (S.length : Int)) := by
  unfold dFault
  split
  · split
    · exact .inr (.inr ⟨rfl, by assumption, by omega⟩)
    · exact .inr (.inl ⟨rfl, by assumption, by assumption⟩)
  · exact .inl ⟨rfl, by rw [← Bool.not_eq_true]; assumption⟩
def wFault (S : List (List UInt8)) (C : List (Int × List UInt8)) (a : Int) (n : Nat) : Int := if dFault S C a = 0 then (if n = 256 then (if C.length = 512 then 4 else 0) else 2) else dFault S C a
def tFault (S : List (List UInt8)) (C : List (Int × List UInt8)) (a p : Int) : Int := if dFault S C a = 0 then (if 0 ≤ p ∧ p < 256 then 0 else 2) else dFault S C a
theorem wFault_zero {S : List (List UInt8)} {C : List (Int × List UInt8)} {a : Int} {n : Nat} (h : wFault S C a n = 0) : chkB S C = true ∧ 0 ≤ a ∧ a < (S.length : Int) ∧ n = 256 ∧ C.length < 512 := by
  unfold wFault at h
  rcases dFault_cases S C a with ⟨h0, _⟩ | ⟨h0, _⟩ | ⟨h0, h1, h2⟩
  · rw [h0] at h; simp at h
  · rw [h0] at h; simp at h
  · rw [h0, if_pos rfl] at h
    have h3 := (chk_true.1 h1).2.1
    by_cases h4 : n = 256
    · rw [if_pos h4] at h
      by_cases h5 : C.length = 512
      · rw [if_pos h5] at h; omega
      · exact ⟨h1, h2.1, h2.2, h4, by omega⟩
    · rw [if_neg h4] at h; omega
theorem tFault_zero {S : List (List UInt8)} {C : List (Int × List UInt8)} {a p : Int} (h : tFault S C a p = 0) : chkB S C = true ∧ 0 ≤ a ∧ a < (S.length : Int) ∧ 0 ≤ p ∧ p < 256 := by
  unfold tFault at h
  rcases dFault_cases S C a with ⟨h0, _⟩ | ⟨h0, _⟩ | ⟨h0, h1, h2⟩
  · rw [h0] at h; simp at h
  · rw [h0] at h; simp at h
  · rw [h0, if_pos rfl] at h
    by_cases h4 : 0 ≤ p ∧ p < 256
    · exact ⟨h1, h2.1, h2.2, h4.1, h4.2⟩
    · rw [if_neg h4] at h; omega

/-- The sectors when the first k writes, of those that are there, were done. -/
def after (S : List (List UInt8)) (C : List (Int × List UInt8)) (T : Nat → Bool) : Nat → List (List UInt8)
  | 0 => S
  | k + 1 => if T k = true then (after S C T k).set (C.getD k (0, [])).1.toNat (C.getD k (0, [])).2 else after S C T k
theorem after_length (S : List (List UInt8)) (C : List (Int × List UInt8)) (T : Nat → Bool) (k : Nat) : (after S C T k).length = S.length := by
  induction k with
  | zero => rfl
  | succ k ih =>
    unfold after
    split
    · rw [List.length_set, ih]
    · exact ih
theorem after_congr (S : List (List UInt8)) (C : List (Int × List UInt8)) (T U : Nat → Bool) (k : Nat) (h : ∀ i, i < k → T i = U i) : after S C T k = after S C U k := by
  induction k with
  | zero => rfl
  | succ k ih =>
    unfold after
    rw [ih (fun i hi => h i (by omega)), h k (by omega)]
theorem after_none (S : List (List UInt8)) (C : List (Int × List UInt8)) (T : Nat → Bool) (k : Nat) (h : ∀ i, i < k → T i = false) : after S C T k = S := by
  induction k with
  | zero => rfl
  | succ k ih =>
    unfold after
    rw [if_neg (by rw [h k (by omega)]; decide)]
    exact ih (fun i hi => h i (by omega))
theorem after_prefix (S : List (List UInt8)) (C D : List (Int × List UInt8)) (T : Nat → Bool) (k : Nat) (hk : k ≤ C.length) : after S (C ++ D) T k = after S C T k := by
  induction k with
  | zero => rfl
  | succ k ih =>
    unfold after
    rw [ih (by omega)]
    have h1 : (C ++ D).getD k (0, []) = C.getD k (0, []) := by
      simp only [List.getD_eq_getElem?_getD]
      rw [List.getElem?_append_left (by omega)]
    rw [h1]
def settledOf (S : List (List UInt8)) (C : List (Int × List UInt8)) (T : Nat → Bool) : List (List UInt8) := after S C T C.length
def every : Nat → Bool := fun _ => true
def keptT (l : List Bool) : Nat → Bool := fun k => l.getD k false
theorem settled_length (S : List (List UInt8)) (C : List (Int × List UInt8)) (T : Nat → Bool) : (settledOf S C T).length = S.length := after_length _ _ _ _
/-- Each sector is as it was, or as one of its writes says, whole. -/
theorem after_one (S : List (List UInt8)) (C : List (Int × List UInt8)) (T : Nat → Bool) (hC : ∀ x ∈ C, 0 ≤ x.1) (k : Nat) (hk : k ≤ C.length) (i : Nat) (hi : i < S.length) :
    (after S C T k).getD i [] = S.getD i [] ∨ ∃ j, j < k ∧ (C.getD j (0, [])).1 = (i : Int) ∧ (after S C T k).getD i [] = (C.getD j (0, [])).2 := by
  induction k with
  | zero => exact .inl rfl
  | succ k ih =>
    unfold after
    split
    · have hm : C.getD k (0, []) ∈ C := by
        rw [List.getD_eq_getElem?_getD, List.getElem?_eq_getElem (show k < C.length by omega)]
        exact List.getElem_mem _
      have h0 := hC _ hm
      have hl : i < (after S C T k).length := by rw [after_length]; exact hi
      by_cases he : (C.getD k (0, [])).1.toNat = i
      · refine .inr ⟨k, by omega, by omega, ?_⟩
        generalize C.getD k (0, []) = x at he
        rw [he, List.getD_eq_getElem?_getD, List.getElem?_set_self hl, Option.getD_some]
      · have h1 : ((after S C T k).set (C.getD k (0, [])).1.toNat (C.getD k (0, [])).2).getD i [] = (after S C T k).getD i [] := by
          generalize C.getD k (0, []) = x at he
          rw [List.getD_eq_getElem?_getD, List.getElem?_set_ne he, List.getD_eq_getElem?_getD]
        rw [h1]
        rcases ih (by omega) with h | ⟨j, hj, h2, h3⟩
        · exact .inl h
        · exact .inr ⟨j, by omega, h2, h3⟩
    · rcases ih (by omega) with h | ⟨j, hj, h2, h3⟩
      · exact .inl h
      · exact .inr ⟨j, by omega, h2, h3⟩
def readOf (S : List (List UInt8)) (C : List (Int × List UInt8)) (a : Int) : List UInt8 := if dFault S C a = 0 then (settledOf S C every).getD a.toNat [] else []
def flushOf (S : List (List UInt8)) (C : List (Int × List UInt8)) (T : Nat → Bool) : List (List UInt8) := if chkB S C = true then settledOf S C T else S
def cacheOf (S : List (List UInt8)) (C : List (Int × List UInt8)) : List (Int × List UInt8) := if chkB S C = true then [] else C
def formOf (S : List (List UInt8)) (C : List (Int × List UInt8)) : Int := if chkB S C = true then 0 else 3
def writeOf (S : List (List UInt8)) (C : List (Int × List UInt8)) (a : Int) (l : List UInt8) : List (Int × List UInt8) := if wFault S C a l.length = 0 then C ++ [(a, l)] else C
def tamperOf (S : List (List UInt8)) (C : List (Int × List UInt8)) (a p : Int) (y : UInt8) : List (List UInt8) := if tFault S C a p = 0 then S.set a.toNat ((S.getD a.toNat []).set p.toNat (((S.getD a.toNat []).getD p.toNat 0) ^^^ y)) else S
def newOf (n : Int) : List (List UInt8) := if 0 ≤ n ∧ n ≤ 256 then List.replicate n.toNat (List.replicate 256 0) else []
def newFault (n : Int) : Int := if 0 ≤ n ∧ n ≤ 256 then 0 else 2
end Go.Proofs.Ytaamjpcpdlanhaa
