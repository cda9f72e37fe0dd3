/- Chains, plain; what a row of texts of the call's own holds, and what keeps it. -/
import Derived.Test.YtfaiblngchdpmaaDoorShaK
import Derived.Test.YtfaiblngchdpmaaDoorShaH
import Derived.Test.YtfaiblngchdpmaaDoorEq
import Derived.Test.YtfaiblngchdpmaaDoorOpen
namespace Go.Proofs.YtfaiblngchdpmaaDoor
open Go.RowKit Go.Lib

def chF (d : List UInt8) (a : Nat → List UInt8) : Nat → List UInt8
  | 0 => d
  | i + 1 => shaOf (chF d a i ++ a i)
def chX (d : List UInt8) (a : Nat → List UInt8) (i : Nat) : List UInt8 := chF d a i ++ a i
theorem chF_succ (d : List UInt8) (a : Nat → List UInt8) (i : Nat) : chF d a (i + 1) = shaOf (chX d a i) := rfl
theorem chF_length (d : List UInt8) (a : Nat → List UInt8) (hd : d.length = 32) (i : Nat) : (chF d a i).length = 32 := by
  cases i with
  | zero => exact hd
  | succ i => exact shaOf_length _
def sames (c d : List UInt8) (a b : Nat → List UInt8) : Nat → Bool
  | 0 => decide (c = d)
  | i + 1 => sames c d a b i && decide (a i = b i)
theorem sames_true (c d : List UInt8) (a b : Nat → List UInt8) (n : Nat) (h : sames c d a b n = true) : chF c a n = chF d b n := by
  induction n with
  | zero => exact of_decide_eq_true h
  | succ n ih =>
    simp only [sames, Bool.and_eq_true] at h
    show shaOf (chF c a n ++ a n) = shaOf (chF d b n ++ b n)
    rw [ih h.1, of_decide_eq_true h.2]
theorem chF_collide (c d : List UInt8) (a b : Nat → List UInt8) (hc : c.length = 32) (hd : d.length = 32) (n : Nat) (hp : chF c a n = chF d b n) (hs : sames c d a b n = false) :
    ∃ i, i < n ∧ chX c a i ≠ chX d b i ∧ shaOf (chX c a i) = shaOf (chX d b i) := by
  induction n with
  | zero => exact absurd hp (of_decide_eq_false hs)
  | succ n ih =>
    by_cases hx : chX c a n = chX d b n
    · have hl := List.append_inj hx (by rw [chF_length c a hc, chF_length d b hd])
      have hs2 : sames c d a b n = false := by
        simp only [sames, Bool.and_eq_false_iff] at hs
        rcases hs with h | h
        · exact h
        · exact absurd hl.2 (of_decide_eq_false h)
      obtain ⟨i, hi, h⟩ := ih hl.1 hs2
      exact ⟨i, by omega, h⟩
    · exact ⟨n, by omega, hx, hp⟩
theorem bytes_is (a b : Value) (la lb : List UInt8) (w : World) (ha : IsBytes w a la) (hb : IsBytes w b lb) :
    Calls Tryd.prog 12 #[a, b] w fun e w' => e = .returned (.bool (decide (la = lb))) ∧ w = w' := by
  by_cases hne : la = lb
  · subst hne
    rw [decide_eq_true rfl]
    exact bytes_same a b la w ha hb
  · rw [decide_eq_false hne]
    have h1 := conv_bytes ha
    have h2 := conv_bytes hb
    have h3 : (la == lb) = false := by rw [beq_eq_false_iff_ne]; exact hne
    clear hne
    go_enter Tryd.func12, Tryd.ntmps12
    go_wp2
    go_ret
    exact ⟨rfl, rfl⟩
/-- A slice of one's own stays where its block does. -/
theorem ownsRow_keep {w w' : World} {B : Nat} {e : TypeId} {s : Nat} {v : Value} {n : Nat} {xs : List Value} (h : w.ownsRow B e s v n xs)
    (hk : ∀ k cur, v.ownBlock = some k → w.heap[k]? = some (.cells cur e (0, 0)) → w'.heap[k]? = some (.cells cur e (0, 0))) : w'.ownsRow B e s v n xs := by
  refine ⟨h.1, ?_⟩
  rcases h.2 with hn | ⟨g, cap, cur, rfl, hb, hg, rest⟩
  · exact .inl hn
  · exact .inr ⟨g, cap, cur, rfl, hb, hk g cur rfl hg, rest⟩
/-- A row of texts of one's own: the row, and each text's bytes. -/
def Texts (B : Nat) (w : World) (v : Value) (n : Nat) (xs : List Value) (Z : Nat → List UInt8) : Prop :=
  w.ownsRow B 24 1 v n xs ∧ ∀ j u, xs[j]? = some u → w.ownsRow B 5 1 u (Z j).length (byteCells (Z j))
theorem Texts.keep {B : Nat} {w w' : World} {v : Value} {n : Nat} {xs : List Value} {Z : Nat → List UInt8} (h : Texts B w v n xs Z)
    (h1 : ∀ (k : Nat) (cur : Array Value), v.ownBlock = some k → w.heap[k]? = some (Obj.cells cur 24 (0, 0)) → w'.heap[k]? = some (Obj.cells cur 24 (0, 0)))
    (h2 : ∀ (k : Nat) (cur : Array Value), w.heap[k]? = some (Obj.cells cur 5 (0, 0)) → w'.heap[k]? = some (Obj.cells cur 5 (0, 0))) : Texts B w' v n xs Z :=
  ⟨ownsRow_keep h.1 h1, fun j u hu => ownsRow_keep (h.2 j u hu) (fun k cur _ => h2 k cur)⟩
theorem Texts.below {B : Nat} {w w' : World} {v : Value} {n : Nat} {xs : List Value} {Z : Nat → List UInt8} (h : Texts B w v n xs Z) (hb : Below w.heap.size w w') : Texts B w' v n xs Z :=
  h.keep (fun k _ _ hk => (hb.block k (Array.getElem?_eq_some_iff.1 hk).1).trans hk) (fun k _ hk => (hb.block k (Array.getElem?_eq_some_iff.1 hk).1).trans hk)
theorem Texts.setRow {B : Nat} {w : World} {v : Value} {n : Nat} {xs : List Value} {Z : Nat → List UInt8} (h : Texts B w v n xs Z) {g : Nat} {cur : Array Value} (hg : w.heap[g]? = some (.cells cur 33 (0, 0))) (r : Array Value) : Texts B (w.setRow g r) v n xs Z :=
  h.keep (fun k c _ hk => (setRow_other w g k r (fun e => by rw [e, hg] at hk; injection hk with hk; injection hk with _ hk _; exact absurd hk (by decide))).trans hk)
    (fun k c hk => (setRow_other w g k r (fun e => by rw [e, hg] at hk; injection hk with hk; injection hk with _ hk _; exact absurd hk (by decide))).trans hk)
theorem Texts.nil (B : Nat) (w : World) (Z : Nat → List UInt8) : Texts B w (.slice none 0 0) 0 [] Z := ⟨World.ownsRow_nil _ _ _ _, fun j u hu => by simp at hu⟩
theorem Texts.len {B : Nat} {w : World} {v : Value} {n : Nat} {xs : List Value} {Z : Nat → List UInt8} (h : Texts B w v n xs Z) : xs.length = n := by have := h.1.1; omega
/-- What append makes of one's own row and one more: where it lies. -/
theorem append_one {P : Program} (w : World) (B : Nat) (t ty e : TypeId) (i : TypeInfo) (z : Value) (ht : P.underlying t = some (.slice e)) (hi : P.info? e = some i) (hz : i.zero = some z)
    (hsize : i.size = 1) (hby : i.bytes = 24) (hzs : z.cells.size = 1) (v : Value) (n : Nat) (xs : List Value) (hown : w.ownsRow B e 1 v n xs) (g : Nat) (u : Value) (hu1 : u.oneCell' = true) (hg : w.heap[g]? = some (.cells #[u] e (0, 0))) (hn : n ≤ 1000) (hB : B ≤ w.heap.size) :
    ∃ v' w', (Builtin.append_ #[t, t] ty #[v, .slice (some ⟨g, 0, none⟩) 1 1]).run P w = .ok v' w' ∧ w'.ownsRow B e 1 v' (n + 1) (xs ++ [u]) ∧ w.grownBy w' v.ownBlock ∧ (v'.ownBlock = v.ownBlock ∨ ∀ k, v'.ownBlock = some k → w.heap.size ≤ k) := by
  have hnews : ∀ (j : Nat) (x : Value), [u][j]? = some x → w.cell? ((⟨g, 0, none⟩ : Addr).add j) = some x := by
    intro j x hx
    obtain ⟨rfl, rfl⟩ : j = 0 ∧ x = u := by
      cases j with
      | zero => simp at hx; exact ⟨rfl, hx.symm⟩
      | succ j => simp at hx
    rw [Addr.add_lit, cell_of_row w g _ _ _ _ hg]
    rfl
  obtain ⟨v', w', hr, h2, h3, _⟩ := run_append_own (P := P) w B t ty e i z 1 24 ht hi hz hsize hby hzs (by decide) v n xs hown ⟨g, 0, none⟩ 1 1 [u] rfl hnews (by simpa using hu1) (by unfold maxLen; omega) (by omega) hB
  refine ⟨v', w', hr, h2, h3, ?_⟩
  rcases hown.2 with ⟨rfl, rfl⟩ | ⟨b, cap, cur, rfl, hbg, hh, hnc, hcm, hcs, htake⟩
  · have hx : xs = [] := List.eq_nil_of_length_eq_zero (by simpa using hown.1)
    subst hx
    obtain ⟨v2, w2, hr2, h4, _, _⟩ := run_append_own (P := P) w w.heap.size t ty e i z 1 24 ht hi hz hsize hby hzs (by decide) (.slice none 0 0) 0 [] (World.ownsRow_nil _ _ _ _) ⟨g, 0, none⟩ 1 1 [u] rfl hnews (by simpa using hu1) (by unfold maxLen; omega) (by omega) (Nat.le_refl _)
    rw [hr] at hr2
    injection hr2 with e1 e2
    subst e1
    subst e2
    exact .inr fun k hk => (h4.lt k hk).1
  · by_cases hroom : n + 1 ≤ cap
    · have hfit : n * i.size + [u].length ≤ cur.size := by rw [hcs, hsize]; simp; omega
      have hr2 := run_append_room (P := P) w t ty e i ht hi b n cap cur hh ⟨g, 0, none⟩ 1 1 [u] (by rw [hsize]; rfl) hnews (by simpa using hu1) hroom hfit
      rw [hr] at hr2
      injection hr2 with e1 e2
      subst e1
      exact .inl rfl
    · have holds : ∀ j u, xs[j]? = some u → w.cell? ((⟨b, 0, none⟩ : Addr).add j) = some u := hown.cells (g := b) rfl
      have hr2 := run_append_grow (P := P) w t ty e i z ht hi hz ⟨b, 0, none⟩ n cap xs (by rw [hsize]; exact hown.1) holds ⟨g, 0, none⟩ 1 1 [u] (by rw [hsize]; rfl) hnews (by omega) (by omega) (by rw [hby]; exact growslice_fits (by omega) (by omega))
      rw [hr] at hr2
      injection hr2 with e1 e2
      subst e1
      exact .inr fun k hk => by simp [Value.ownBlock] at hk; omega
end Go.Proofs.YtfaiblngchdpmaaDoor
