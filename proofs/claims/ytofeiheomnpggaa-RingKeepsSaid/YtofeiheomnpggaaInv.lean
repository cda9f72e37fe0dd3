/- A region that draws its order, by an invariant over what has been done: one step for each operation, whatever the order. -/
import Derived.Test.YtofeiheomnpggaaBase
import Derived.Deep.RegionHeld3
namespace Go.Proofs.Ytofeiheomnpggaa
open Go.RowKit Go.Lib

theorem count_set {l : List Bool} {i : Nat} (h : l[i]? = some false) : (l.set i true).count false + 1 = l.count false := by
  induction l generalizing i with
  | nil => simp at h
  | cons b r ih =>
    cases i with
    | zero =>
      simp at h
      subst h
      simp
    | succ i =>
      have h2 := ih (i := i) (by simpa using h)
      simp only [List.set_cons_succ, List.count_cons]
      omega
theorem ready_false {md : Region.Mode} {ops : Array Oper} {l : Array Bool} {i : Nat} (h : i ∈ Region.ready md ops l) : l.toList[i]? = some false := by
  rw [Region.ready, List.mem_filter] at h
  have h2 := h.2
  simp only [Bool.and_eq_true, Bool.not_eq_true'] at h2
  have h3 := h2.1
  rw [Array.getD_eq_getD_getElem?] at h3
  rw [Array.getElem?_toList]
  rcases hx : l[i]? with _ | b
  · rw [hx] at h3; cases h3
  · rw [hx] at h3; simp at h3; rw [h3]
theorem wpAny_inv {P : Program} {ops : Array Oper} {Q : Exit → Act → World → Prop} {md : Region.Mode} (I : Array Bool → Act → World → Prop)
    (hstep : ∀ l a w, I l a w → ∀ i ∈ Region.ready md ops l, wpOp P ops Q i (fun a' w' => I (l.setIfInBounds i true) a' w') a w)
    (hdone : ∀ l a w, I l a w → Region.ready md ops l = [] → Q .normal a w) :
    ∀ (fuel : Nat) (l : Array Bool) (a : Act) (w : World), I l a w → l.toList.count false ≤ fuel → wpAny P md ops Q fuel l a w
  | 0, l, a, w, hI, hc => by
    have hr : Region.ready md ops l = [] := by
      rcases hx : Region.ready md ops l with _ | ⟨i, r⟩
      · rfl
      · have h1 := count_set (ready_false (md := md) (ops := ops) (i := i) (by rw [hx]; simp))
        omega
    exact ⟨hr, hdone l a w hI hr⟩
  | fuel + 1, l, a, w, hI, hc => ⟨fun hr => hdone l a w hI hr, fun i hi => by
      have h1 := count_set (ready_false hi)
      refine wpOp_mono (fun a' w' h' => wpAny_inv I hstep hdone fuel _ a' w' h' ?_) (hstep l a w hI i hi)
      rw [Array.toList_setIfInBounds]
      omega⟩
/-- Each operation waits for earlier ones alone. -/
def earlier (md : Region.Mode) (ops : Array Oper) : Bool := (List.range ops.size).all fun i => ((ops[i]?).map (·.after.all fun e => !Region.binds md e || decide (e.on < i))).getD true
theorem all_done {md : Region.Mode} {ops : Array Oper} {l : Array Bool} (he : earlier md ops = true) (hs : l.size = ops.size) (hr : Region.ready md ops l = []) : ∀ i, i < ops.size → l.getD i true = true := by
  intro i
  induction i using Nat.strongRecOn with
  | ind i ih =>
    intro hi
    rcases hb : l.getD i true with _ | _
    · exfalso
      have hmem : i ∈ Region.ready md ops l := by
        rw [Region.ready, List.mem_filter, List.mem_range]
        refine ⟨hi, ?_⟩
        rw [hb]
        obtain ⟨o, ho⟩ : ∃ o, ops[i]? = some o := ⟨ops[i], Array.getElem?_eq_getElem hi⟩
        unfold earlier at he
        rw [List.all_eq_true] at he
        have h1 := he i (List.mem_range.2 hi)
        rw [ho] at h1 ⊢
        simp only [Option.map_some, Option.getD_some, Bool.not_false, Bool.true_and] at h1 ⊢
        rw [Array.all_eq_true_iff_forall_mem] at h1 ⊢
        intro e hem
        have h1e := h1 e hem
        rcases hbd : Region.binds md e with _ | _
        · rfl
        rw [hbd] at h1e
        have h2 : e.on < i := of_decide_eq_true (by simpa using h1e)
        have h3 := ih e.on h2 (by omega)
        have h4 : l.getD e.on false = l.getD e.on true := by
          have h5 : e.on < l.size := by omega
          simp [h5]
        rw [h4, h3]
        rfl
      rw [hr] at hmem
      cases hmem
    · rfl
/-- The beginning. -/
theorem wp_region_inv {P : Program} {ops : Array Oper} {Q : Exit → Act → World → Prop} {id : Nat} {a : Act} {w : World} (hm : P.follows .mixedOrders = true) (he : earlier .any ops = true) (I : Array Bool → Act → World → Prop)
    (h0 : I (Array.replicate ops.size false) a w.drew)
    (hsz : ∀ l a w, I l a w → l.size = ops.size)
    (hstep : ∀ l a w, I l a w → ∀ i ∈ Region.ready .any ops l, wpOp P ops Q i (fun a' w' => I (l.setIfInBounds i true) a' w') a w)
    (hdone : ∀ l a w, I l a w → (∀ i, i < ops.size → l.getD i true = true) → Q .normal a w) : (Code.region id ops true).wp P Q a w :=
  wp_region_any hm (wpAny_inv I hstep (fun l a w hI hr => hdone l a w hI (all_done he (hsz l a w hI) hr)) _ _ _ _ h0 (by simp))
/-- .. where what has been done and what the slots hold lie in one record. -/
theorem wp_region_rec {X : Type} {P : Program} {ops : Array Oper} {Q : Exit → Act → World → Prop} {id : Nat} {a : Act} {w : World} (hm : P.follows .mixedOrders = true) (he : earlier .any ops = true) (fl : X → Array Bool) (fa : X → Act) (J : X → World → Prop) (x0 : X)
    (hl0 : Array.replicate ops.size false = fl x0) (ha0 : a = fa x0) (h0 : J x0 w.drew)
    (hsz : ∀ x, (fl x).size = ops.size)
    (hstep : ∀ x w, J x w → ∀ i ∈ Region.ready .any ops (fl x), wpOp P ops Q i (fun a' w' => ∃ x', (fl x).setIfInBounds i true = fl x' ∧ a' = fa x' ∧ J x' w') (fa x) w)
    (hdone : ∀ x w, J x w → (∀ i, i < ops.size → (fl x).getD i true = true) → Q .normal (fa x) w) : (Code.region id ops true).wp P Q a w :=
  wp_region_inv hm he (fun l a w => ∃ x, l = fl x ∧ a = fa x ∧ J x w) ⟨x0, hl0, ha0, h0⟩
    (fun l a w ⟨x, hl, _, _⟩ => by rw [hl]; exact hsz x)
    (fun l a w ⟨x, hl, ha, hJ⟩ i hi => by
      subst hl
      subst ha
      exact hstep x w hJ i hi)
    (fun l a w ⟨x, hl, ha, hJ⟩ hall => by
      subst hl
      subst ha
      exact hdone x w hJ hall)
/-- One operation. -/
theorem inv_op {P : Program} {ops : Array Oper} {Q : Exit → Act → World → Prop} {i : Nat} {o : Oper} {I : Act → World → Prop} {a : Act} {w : World} (ho : ops[i]? = some o)
    (h : ∀ K' : Act → World → Prop, Shut (∀ a w, I a w → K' a w) → if Region.wanted o (yielded ops a.tmps) = true then Oper.wp P o a w K' Q else K' (a.put o.dst undef) w) : wpOp P ops Q i I a w :=
  wpOp_step ho (fun K' hK => h K' hK)
end Go.Proofs.Ytofeiheomnpggaa
