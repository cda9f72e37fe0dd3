/- What a ring's faults answer; numbers got, and put, one behind the other, by functions that are made for a place; the document's get and put. -/
import Derived.Test.YtofeiheomnpggaaRngC
namespace Go.Proofs.Ytofeiheomnpggaa
open Go.RowKit Go.Lib

theorem ringFault_any (a : Option Addr) (n c : Nat) (hn : n ≤ maxLen) (b z : Int) (F : Int) (hF : ringF n b z = F) (w : World) :
    Calls Try.prog 31 #[.agg #[.slice a n c], .int .i64 b, .int .i64 z] w fun e w' => e = .returned (.int .i64 F) ∧ Below w.heap.size w w' := by
  have HB0 := Lib.hid ((Below.refl w.heap.size w).alloc (Nat.le_refl _) (.cells #[.slice a n c] 28))
  have HN := Lib.hid hn
  subst hF
  unfold ringF
  cases h : okR n b z
  all_goals
    have H := Lib.hid h
    clear h hn
    go_enter Try.func31, Try.ntmps31
    go_wp2_with fail
    refine (ringCheck_any _ _ _ HN.out _ _ _ H.out _).mono ?_
    rintro e w1 ⟨rfl, hb⟩
    have HB1 := Lib.hid (HB0.out.trans (hb.mono (by simp)))
    clear hb
    go_wp2
    go_ret
    exact ⟨rfl, HB1.out⟩

theorem descFault_any (a : Option Addr) (n c : Nat) (hn : n ≤ maxLen) (b z i : Int) (F : Int) (hF : descF n b z i = F) (w : World) :
    Calls Try.prog 40 #[.agg #[.slice a n c], .int .i64 b, .int .i64 z, .int .i64 i] w fun e w' => e = .returned (.int .i64 F) ∧ Below w.heap.size w w' := by
  have HB0 := Lib.hid ((Below.refl w.heap.size w).alloc (Nat.le_refl _) (.cells #[.slice a n c] 28))
  have HN := Lib.hid hn
  subst hF
  unfold descF
  by_cases h : okR n b z = true
  · rw [if_pos h]
    have HF := Lib.hid (show ringF n b z = 0 by rw [ringF, if_pos h])
    have H : (i < 0 ∧ (if 0 ≤ i ∧ i < z then (0 : Int) else 2) = 2) ∨ (0 ≤ i ∧ z ≤ i ∧ (if 0 ≤ i ∧ i < z then (0 : Int) else 2) = 2) ∨ (0 ≤ i ∧ i < z ∧ (if 0 ≤ i ∧ i < z then (0 : Int) else 2) = 0) := by
      by_cases h1 : 0 ≤ i ∧ i < z
      · exact .inr (.inr ⟨h1.1, h1.2, if_pos h1⟩)
      · by_cases h2 : i < 0
        · exact .inl ⟨h2, if_neg h1⟩
        · exact .inr (.inl ⟨by omega, by omega, if_neg h1⟩)
    clear h hn
    rcases H with ⟨h1, hq⟩ | ⟨h1, h2, hq⟩ | ⟨h1, h2, hq⟩
    all_goals
      rw [hq]
      clear hq
      go_enter Try.func40, Try.ntmps40
      go_wp2_with fail
      refine (ringFault_any _ _ _ HN.out _ _ _ HF.out _).mono ?_
      rintro e w1 ⟨rfl, hb⟩
      have HB1 := Lib.hid (HB0.out.trans (hb.mono (by simp)))
      clear hb
      go_wp2
      go_ret
      exact ⟨rfl, HB1.out⟩
  · rw [if_neg h]
    have HF := Lib.hid (show ringF n b z = 70 by rw [ringF, if_neg h])
    clear h hn
    go_enter Try.func40, Try.ntmps40
    go_wp2_with fail
    refine (ringFault_any _ _ _ HN.out _ _ _ HF.out _).mono ?_
    rintro e w1 ⟨rfl, hb⟩
    have HB1 := Lib.hid (HB0.out.trans (hb.mono (by simp)))
    clear hb
    go_wp2
    go_ret
    exact ⟨rfl, HB1.out⟩

set_option maxHeartbeats 1000000 in
theorem ringSame_any (v : Value) (l : List UInt8) (w : World) (hv : IsArg w v l) (hl : l.length ≤ 140737488355328) :
    Calls Try.prog 32 #[.agg #[v]] w fun e w' => ∃ r, e = .returned (.agg #[r]) ∧ w'.ownsRow w.heap.size 5 1 r l.length (byteCells l) ∧ Below w.heap.size w w' := by
  have HV := Lib.hid hv
  have HB := Lib.hid (((Below.refl w.heap.size w).alloc (Nat.le_refl _) (.cells #[v] 28)).alloc (by simp) (.cells #[.slice none 0 0] 28))
  obtain ⟨a, c, rfl, _⟩ := hv.shape
  clear hv
  go_enter Try.func32, Try.ntmps32
  go_wp2_with fail
  refine (clone_any _ _ _ (HV.out.below HB.out) hl).mono ?_
  rintro e w1 ⟨r, rfl, hr, hb⟩
  have HB1 := Lib.hid (HB.out.trans (hb.mono (by simp; omega)))
  have HR := Lib.hid hr
  obtain ⟨_, hold, hfz, hlt⟩ := second_box hb
  obtain ⟨ra, rc, rfl, _⟩ := (isArg_of_owns hr).shape
  clear hr hb
  go_wp2
  refine bodyPost_ret (v := .agg #[.slice ra l.length rc]) (by simp [results, Try.results32, go_sem, hold]) rfl ⟨_, rfl, ?_, ?_⟩
  · exact ownsRow_base (ownsRow_set HR.out _ _ (by simp)) (by simp; omega)
  · exact HB1.out.setCell (by simp) _

/-- A place in memory: numbers there, of 1 to 8 bytes. -/
theorem numFault_in {L p k : Nat} (hL : L ≤ 8192) (h : p + k ≤ L) (h1 : 1 ≤ k) (h8 : k ≤ 8) : numFaultOf L (p : Nat) (k : Nat) = 0 ∧ sizeFaultOf L (k : Nat) = 0 ∧ faultOf L (p : Nat) (k : Nat) = 0 := by
  have e1 : sizeFaultOf L (k : Nat) = 0 := by unfold sizeFaultOf; rw [if_pos hL, if_pos (by omega)]
  have e2 : faultOf L (p : Nat) (k : Nat) = 0 := fault_of hL (by omega) (by omega) (by omega) (by omega)
  exact ⟨by rw [numFaultOf, if_pos e1, e2], e1, e2⟩
theorem numOf_in {l : List UInt8} {p k : Nat} (hL : l.length ≤ 8192) (h : p + k ≤ l.length) (h1 : 1 ≤ k) (h8 : k ≤ 8) : numOf l (p : Nat) (k : Nat) = numAt l p k := by
  obtain ⟨_, e1, e2⟩ := numFault_in hL h h1 h8
  rw [numOf, if_pos e1, getOf_some e2, Int.toNat_natCast, Int.toNat_natCast, List.take_take, Nat.min_eq_right h8, numAt]
theorem putNumOf_in {l : List UInt8} {p k : Nat} (x : Nat) (hL : l.length ≤ 8192) (h : p + k ≤ l.length) (h1 : 1 ≤ k) (h8 : k ≤ 8) : putNumOf l (p : Nat) (k : Nat) x = putAt l p k x := by
  obtain ⟨_, e1, e2⟩ := numFault_in hL h h1 h8
  rw [putNumOf, if_pos e1, Int.toNat_natCast, putOf_some (by rw [leB_length]; exact e2), leB_length, Int.toNat_natCast, putAt]
theorem num_in {v : Value} {l : List UInt8} {p k : Nat} (hL : l.length ≤ 8192) (h : p + k ≤ l.length) (h1 : 1 ≤ k) (h8 : k ≤ 8) (w : World) (hv : IsArg w v l) :
    Calls Try.prog 54 #[.agg #[v], .int .i64 (p : Nat), .int .i64 (k : Nat)] w fun e w' => e = .returned (.tuple #[.int .u64 (numAt l p k : Nat), .int .i64 0]) ∧ Below w.heap.size w w' :=
  (num_any v l w hv p k (by unfold maxLen; omega)).mono fun _ _ ⟨e1, e2⟩ => by
    rw [numOf_in hL h h1 h8, (numFault_in hL h h1 h8).1] at e1
    exact ⟨e1, e2⟩
theorem refNum_in {v : Value} {l : List UInt8} {p k : Nat} (hL : l.length ≤ 8192) (h : p + k ≤ l.length) (h1 : 1 ≤ k) (h8 : k ≤ 8) (w : World) (hv : IsArg w v l) :
    Calls Try.prog 56 #[.agg #[v], .int .i64 (p : Nat), .int .i64 (k : Nat)] w fun e w' => e = .returned (.tuple #[.int .u64 (numAt l p k : Nat), .int .i64 0]) ∧ Below w.heap.size w w' :=
  (refNum_any v l w hv p k (by unfold maxLen; omega)).mono fun _ _ ⟨e1, e2⟩ => by
    rw [numOf_in hL h h1 h8, (numFault_in hL h h1 h8).1] at e1
    exact ⟨e1, e2⟩
theorem putNum_at {v : Value} {l : List UInt8} {p k : Nat} (x : Nat) (hL : l.length ≤ 8192) (h : p + k ≤ l.length) (h1 : 1 ≤ k) (h8 : k ≤ 8) (w : World) (hv : IsArg w v l) :
    Calls Try.prog 58 #[.agg #[v], .int .i64 (p : Nat), .int .i64 (k : Nat), .int .u64 (x : Nat)] w fun e w' => ∃ r, e = .returned (.tuple #[.agg #[r], .int .i64 0]) ∧ Given w' w.heap.size v l r (putAt l p k x) ∧ Below w.heap.size w w' :=
  (putNum_any v l w hv p k x (by omega)).mono fun _ _ ⟨r, e1, e2, e3⟩ => by
    rw [(numFault_in hL h h1 h8).1] at e1
    rw [putNumOf_in x hL h h1 h8] at e2
    exact ⟨r, e1, e2, e3⟩
theorem refPutNum_at {v : Value} {l : List UInt8} {p k : Nat} (x : Nat) (hx : x < 18446744073709551616) (hL : l.length ≤ 8192) (h : p + k ≤ l.length) (h1 : 1 ≤ k) (h8 : k ≤ 8) (w : World) (hv : IsArg w v l) :
    Calls Try.prog 59 #[.agg #[v], .int .i64 (p : Nat), .int .i64 (k : Nat), .int .u64 (x : Nat)] w fun e w' => ∃ r, e = .returned (.tuple #[.agg #[r], .int .i64 0]) ∧ Given w' w.heap.size v l r (putAt l p k x) ∧ Below w.heap.size w w' :=
  (refPutNum_any v l w hv p k x hx (by omega)).mono fun _ _ ⟨r, e1, e2, e3⟩ => by
    rw [(numFault_in hL h h1 h8).1] at e1
    rw [putNumOf_in x hL h h1 h8] at e2
    exact ⟨r, e1, e2, e3⟩

/-- The boxes of a function that gets numbers: memory, and the place. -/
def GetAt (w : World) (a b : Nat) (v : Value) (p : Nat) : Prop := w.heap[a]? = some (.cells #[v] 28 (0, 0)) ∧ w.heap[b]? = some (.cells #[.int .i64 (p : Nat)] 3 (0, 0))
theorem GetAt.below {w w' : World} {a b : Nat} {v : Value} {p : Nat} (h : GetAt w a b v p) (hb : Below w.heap.size w w') : GetAt w' a b v p := ⟨row_keep h.1 hb, row_keep h.2 hb⟩
theorem tneMI : (28 : Nat) ≠ 3 := by decide
theorem tneMU : (28 : Nat) ≠ 5 := by decide
theorem tneIU : (3 : Nat) ≠ 5 := by decide
theorem tnePM : (81 : Nat) ≠ 28 := by decide
theorem tnePI : (81 : Nat) ≠ 3 := by decide
theorem blocks_ne {X : World} {r g : Nat} {cs ds : Array Value} {s t : TypeId} {fr fs : Nat × Nat} (h : X.heap[g]? = some (.cells cs s fr)) (hr : X.heap[r]? = some (.cells ds t fs)) (hne : (t : Nat) ≠ s) : r ≠ g := by
  intro he
  subst he
  rw [h] at hr
  injection hr with hr
  injection hr with _ hr
  exact hne hr.symm
/-- The block b alone may have turned. -/
def Save1 (w w' : World) (b : Nat) : Prop := ∃ y, Below w.heap.size (w.setCell ⟨b, 0, none⟩ y) w'
theorem set_size (w : World) (a : Addr) (y : Value) : (w.setCell a y).heap.size = w.heap.size := by simp [World.setCell]
theorem Save1.below {B b : Nat} {w0 w w' : World} (h : Save1 w w' b) (h0 : Below B w0 w) (hb : B ≤ b) (hs : B ≤ w.heap.size) : Below B w0 w' := by
  obtain ⟨y, hy⟩ := h
  exact (h0.setCell hb y).trans (hy.mono hs)
theorem Save1.row {b g : Nat} {w w' : World} {o : Obj} (h : Save1 w w' b) (hg : w.heap[g]? = some o) (hne : g ≠ b) : w'.heap[g]? = some o := by
  obtain ⟨y, hy⟩ := h
  rw [hy.block g (Array.getElem?_eq_some_iff.1 hg).1]
  exact one_other hg _ _ (by simpa using fun e => hne e.symm)
theorem Save1.size {b : Nat} {w w' : World} (h : Save1 w w' b) : w.heap.size ≤ w'.heap.size := by
  obtain ⟨y, hy⟩ := h
  have := hy.size
  rwa [set_size] at this

/-- A store into an elder block goes with what is made behind it. -/
theorem below_set {w w' : World} (h : Below w.heap.size w w') (b : Nat) (y : Value) : Below w.heap.size (w.setCell ⟨b, 0, none⟩ y) (w'.setCell ⟨b, 0, none⟩ y) := by
  refine ⟨h.os, h.tape, h.output, by rw [set_size, set_size]; exact h.size, fun k hk => ?_⟩
  have e := h.block k hk
  simp only [World.setCell, Array.getElem?_modify]
  split
  · rename_i hbk
    subst hbk
    simp only [e]
  · exact e

theorem getter_any (v : Value) (l : List UInt8) (p : Nat) (w : World) (hv : IsArg w v l) : Calls Try.prog 37 #[.agg #[v], .int .i64 (p : Nat)] w fun e w' => ∃ a b, e = .returned (.func (.func 53) #[] #[.pointer (some ⟨a, 0, none⟩), .pointer (some ⟨b, 0, none⟩)]) ∧ GetAt w' a b v p ∧ w.heap.size ≤ a ∧ w.heap.size ≤ b ∧ Below w.heap.size w w' := by
  obtain ⟨h1, h2, h3⟩ := two_new w v (.int .i64 (p : Nat)) 28 3
  have H1 := Lib.hid h1
  have H2 := Lib.hid h2
  have H3 := Lib.hid h3
  obtain ⟨a, c, rfl, _⟩ := hv.shape
  clear h1 h2 h3 hv
  go_enter Try.func37, Try.ntmps37
  go_wp2
  go_ret
  exact ⟨_, _, rfl, ⟨H1.out, by simpa using H2.out⟩, Nat.le_refl _, by simp, H3.out⟩

set_option maxHeartbeats 1000000 in
theorem get_num (a b : Nat) (v : Value) (l : List UInt8) (p k q : Nat) (hq : p + k = q) (hL : l.length ≤ 8192) (h : p + k ≤ l.length) (h1 : 1 ≤ k) (h8 : k ≤ 8) (w : World) (hv : IsArg w v l) (hg : GetAt w a b v p) :
    Calls Try.prog 53 #[.int .i64 (k : Nat), .pointer (some ⟨a, 0, none⟩), .pointer (some ⟨b, 0, none⟩)] w fun e w' => e = .returned (.int .u64 (numAt l p k : Nat)) ∧ GetAt w' a b v q ∧ Save1 w w' b := by
  have HN := Lib.hid (num_in (v := v) hL h h1 h8 w hv)
  obtain ⟨n, hn⟩ : ∃ n, n = numAt l p k := ⟨_, rfl⟩
  rw [← hn] at HN
  rw [← hn]
  have hpq : (p : Int) + (k : Nat) = (q : Nat) := by omega
  have hq1 : q ≤ 8192 := by omega
  obtain ⟨va, vc, rfl, _⟩ := hv.shape
  have HG := Lib.hid hg
  have HNE := Lib.hid (blocks_ne hg.1 hg.2 tneMI.symm)
  obtain ⟨c1, f1⟩ := one_cell hg.1
  obtain ⟨c2, f2⟩ := one_cell hg.2
  clear hq hL h h1 h8 hv hg hn f1
  go_enter Try.func53, Try.ntmps53
  go_wp2_with fail
  refine (HN.out).mono ?_
  rintro e w1 ⟨rfl, hb⟩
  have HG1 := Lib.hid (HG.out.below hb)
  have HB := Lib.hid hb
  have g1 := row_keep HG.out.1 hb
  have g2 := row_keep HG.out.2 hb
  have HG1a := Lib.hid g1
  have HG1b := Lib.hid g2
  obtain ⟨d1, e1⟩ := one_cell g1
  obtain ⟨d2, e2⟩ := one_cell g2
  clear hb c1 c2 f2 g1 g2 d1 e1
  go_wp2
  go_ret
  exact ⟨rfl, ⟨one_other HG1a.out _ _ HNE.out, one_set HG1b.out (.int .i64 (q : Nat))⟩, .int .i64 (q : Nat), below_set HB.out b _⟩
end Go.Proofs.Ytofeiheomnpggaa
