/- What a round answers. -/
import Derived.Test.YtfaiblngchdpmaaDoorShaR
import Derived.Laws.Tables
import Derived.Laws.Rows
import Derived.Laws.CopyOwn
namespace Go.Proofs.YtfaiblngchdpmaaDoor
open Go.RowKit Go.Lib

def u32s (l : List Nat) : List Value := l.map fun x => .int .u32 (x : Nat)
@[simp] theorem u32s_length (l : List Nat) : (u32s l).length = l.length := by simp [u32s]
def All32 (l : List Nat) : Prop := ∀ x ∈ l, x < 4294967296
/-- A round, what is added being one number. -/
def roundA (v : List Nat) (add : Nat) : List Nat :=
  let a := v.getD 0 0; let b := v.getD 1 0; let c := v.getD 2 0; let d := v.getD 3 0
  let e := v.getD 4 0; let f := v.getD 5 0; let g := v.getD 6 0; let h := v.getD 7 0
  let t := (h + la1 e + chN e f g + add) % 4294967296
  let u := (la0 a + maN a b c) % 4294967296
  [(t + u) % 4294967296, a, b, c, (d + t) % 4294967296, e, f, g]
theorem roundA_N (v : List Nat) (k w : Nat) : roundN v k w = roundA v ((k + w) % 4294967296) := by
  have h : ∀ S : Nat, (S + k + w) % m32 = (S + (k + w) % 4294967296) % 4294967296 := fun S => by unfold m32; omega
  unfold roundN roundA
  simp only [h]
  rfl
theorem roundA_length (v : List Nat) (add : Nat) : (roundA v add).length = 8 := rfl
theorem roundA_32 (v : List Nat) (add : Nat) (h : All32 v) : All32 (roundA v add) := by
  have hg : ∀ i, v.getD i 0 < 4294967296 := fun i => by
    rw [List.getD_eq_getElem?_getD]
    rcases hx : v[i]? with _ | x
    · simp
    · exact h x (List.mem_of_getElem? hx)
  intro x hx
  simp only [roundA, List.mem_cons, List.not_mem_nil, or_false] at hx
  rcases hx with rfl | rfl | rfl | rfl | rfl | rfl | rfl | rfl
  all_goals first | exact Nat.mod_lt _ (by decide) | exact hg _

theorem x3_32 (a b c : Nat) (ha : a < 4294967296) (hb : b < 4294967296) (hc : c < 4294967296) : bits BinOp.xor IntKind.u32 (bits BinOp.xor IntKind.u32 (a : Int) (b : Int)) (c : Int) = ((a ^^^ b ^^^ c : Nat) : Int) := by
  rw [u32_xor_nat a b ha hb, u32_xor_nat (a ^^^ b) c (Nat.xor_lt_two_pow (n := 32) ha hb) hc]
theorem ones_xor (e : Nat) (he : e < 4294967296) : 4294967295 ^^^ e = 4294967295 - e := by
  have h1 : 4294967295 = 2 ^ 32 - 1 := rfl
  apply Nat.eq_of_testBit_eq
  intro i
  rw [Nat.testBit_xor, h1, Nat.testBit_two_pow_sub_one, show 2 ^ 32 - 1 - e = 2 ^ 32 - (e + 1) by omega, Nat.testBit_two_pow_sub_succ (by simpa using he)]
  by_cases hi : i < 32
  · simp [hi]
  · have : e.testBit i = false := Nat.testBit_lt_two_pow (Nat.lt_of_lt_of_le (show e < 2 ^ 32 from he) (Nat.pow_le_pow_right (by decide) (by omega)))
    simp [hi, this]
theorem ch_32 (e f g : Nat) (he : e < 4294967296) (hf : f < 4294967296) (hg : g < 4294967296) : bits BinOp.xor IntKind.u32 (bits BinOp.and IntKind.u32 (e : Int) (f : Int)) (bits BinOp.and IntKind.u32 (bits BinOp.xor IntKind.u32 IntKind.u32.max (e : Int)) (g : Int)) = ((chN e f g : Nat) : Int) := by
  have h2 : 4294967295 - e < 4294967296 := by omega
  rw [show IntKind.u32.max = ((4294967295 : Nat) : Int) from rfl, u32_xor_nat 4294967295 e (by decide) he, ones_xor e he, u32_and_nat e f he hf, u32_and_nat _ g h2 hg,
    u32_xor_nat _ _ (Nat.and_lt_two_pow (n := 32) _ hf) (Nat.and_lt_two_pow (n := 32) _ hg)]
  rfl
theorem ma_32 (a b c : Nat) (ha : a < 4294967296) (hb : b < 4294967296) (hc : c < 4294967296) : bits BinOp.xor IntKind.u32 (bits BinOp.xor IntKind.u32 (bits BinOp.and IntKind.u32 (a : Int) (b : Int)) (bits BinOp.and IntKind.u32 (a : Int) (c : Int))) (bits BinOp.and IntKind.u32 (b : Int) (c : Int)) = ((maN a b c : Nat) : Int) := by
  rw [u32_and_nat a b ha hb, u32_and_nat a c ha hc, u32_and_nat b c hb hc, x3_32 _ _ _ (Nat.and_lt_two_pow (n := 32) _ hb) (Nat.and_lt_two_pow (n := 32) _ hc) (Nat.and_lt_two_pow (n := 32) _ hc)]
  rfl
theorem la1_32 (e : Nat) (he : e < 4294967296) : bits BinOp.xor IntKind.u32 (bits BinOp.xor IntKind.u32 ((rotR e 6 : Nat) : Int) ((rotR e 11 : Nat) : Int)) ((rotR e 25 : Nat) : Int) = ((la1 e : Nat) : Int) := x3_32 _ _ _ (rotR_lt he) (rotR_lt he) (rotR_lt he)
theorem la0_32 (a : Nat) (ha : a < 4294967296) : bits BinOp.xor IntKind.u32 (bits BinOp.xor IntKind.u32 ((rotR a 2 : Nat) : Int) ((rotR a 13 : Nat) : Int)) ((rotR a 22 : Nat) : Int) = ((la0 a : Nat) : Int) := x3_32 _ _ _ (rotR_lt ha) (rotR_lt ha) (rotR_lt ha)

theorem info8x32 : (Tryd.prog.info? 23).map (·.size) = some 8 := by kernel_rfl
theorem und8x32 : Tryd.prog.underlying 23 = some (.array 8 22) := by kernel_rfl
theorem eight_cells (w : World) (g : Nat) (t : TypeId) {z : Value} (h : w.heap[g]? = some (.cells #[z, z, z, z, z, z, z, z] t (0, 0))) (a b c d e f g' i : Value) :
    ((((((((w.setCell ⟨g, 0, none⟩ a).setCell ⟨g, 1, none⟩ b).setCell ⟨g, 2, none⟩ c).setCell ⟨g, 3, none⟩ d).setCell ⟨g, 4, none⟩ e).setCell ⟨g, 5, none⟩ f).setCell ⟨g, 6, none⟩ g').setCell ⟨g, 7, none⟩ i).heap[g]? = some (.cells #[a, b, c, d, e, f, g', i] t (0, 0)) := by
  simp [World.setCell, Array.getElem?_modify, h]
theorem eight_below {B : Nat} {w0 w : World} (hb : Below B w0 w) {g : Nat} (hg : B ≤ g) (a b c d e f g' i : Value) :
    Below B w0 ((((((((w.setCell ⟨g, 0, none⟩ a).setCell ⟨g, 1, none⟩ b).setCell ⟨g, 2, none⟩ c).setCell ⟨g, 3, none⟩ d).setCell ⟨g, 4, none⟩ e).setCell ⟨g, 5, none⟩ f).setCell ⟨g, 6, none⟩ g').setCell ⟨g, 7, none⟩ i) :=
  (((((((hb.setCell hg _).setCell hg _).setCell hg _).setCell hg _).setCell hg _).setCell hg _).setCell hg _).setCell hg _
set_option maxHeartbeats 2000000 in
theorem round_all (a b c d e f g h k : Nat) (ha : a < 4294967296) (hb : b < 4294967296) (hc : c < 4294967296) (he : e < 4294967296) (hf : f < 4294967296) (hg : g < 4294967296) (w : World) :
    Calls Tryd.prog 23 #[.agg #[.int .u32 a, .int .u32 b, .int .u32 c, .int .u32 d, .int .u32 e, .int .u32 f, .int .u32 g, .int .u32 h], .int .u32 k] w fun z w' => z = .returned (.agg (u32s (roundA [a, b, c, d, e, f, g, h] k)).toArray) ∧ Below w.heap.size w w' := by
  have h1 := la1_32 e he
  have h2 := la0_32 a ha
  have h3 := ch_32 e f g he hf hg
  have h4 := ma_32 a b c ha hb hc
  obtain ⟨t, ht⟩ : ∃ t, t = (h + la1 e + chN e f g + k) % 4294967296 := ⟨_, rfl⟩
  obtain ⟨u, hu⟩ : ∃ u, u = (la0 a + maN a b c) % 4294967296 := ⟨_, rfl⟩
  have h5 : ((h : Int) + ((la1 e : Nat) : Int) + ((chN e f g : Nat) : Int) + (k : Int)) % 4294967296 = (t : Int) := by omega
  have h6 : (((la0 a : Nat) : Int) + ((maN a b c : Nat) : Int)) % 4294967296 = (u : Int) := by omega
  have hR : roundA [a, b, c, d, e, f, g, h] k = [(t + u) % 4294967296, a, b, c, (d + t) % 4294967296, e, f, g] := by
    simp [roundA, ← ht, ← hu]
  have HR := Lib.hid hR
  have HE := Lib.hid (show ((h : Int) + ((la1 e : Nat) : Int) + ((chN e f g : Nat) : Int) + (k : Int) + (u : Int)) % 4294967296 = (((t + u) % 4294967296 : Nat) : Int) ∧ ((d : Int) + ((h : Int) + ((la1 e : Nat) : Int) + ((chN e f g : Nat) : Int) + (k : Int))) % 4294967296 = (((d + t) % 4294967296 : Nat) : Int) by omega)
  clear hR ht hu
  go_enter Tryd.func23, Tryd.ntmps23
  go_wp2_with fail
  go_quiet (fail)
  go_wp2_with (go_at_call 21; refine (rot_any _ _ (by assumption) (by decide) (by decide) _).mono ?_; rintro e w' ⟨rfl, rfl⟩)
  refine bodyPost_ret (results_cell_row rfl _ _ (w.heap.size + 1) 23 _ (0, 0) _ rfl (eight_cells (z := .int .u32 0) _ _ 23 ?c1 _ _ _ _ _ _ _ _) und8x32 rfl info8x32) rfl ⟨?c2, ?c3⟩
  case c1 => exact heap_alloc2_new w _ _
  case c2 =>
    rw [HR.out, HE.out.1, HE.out.2]
    rfl
  case c3 => exact eight_below (below_drewN (((Below.refl _ _).alloc (Nat.le_refl _) _).alloc (by simp) _) _) (by omega) _ _ _ _ _ _ _ _
theorem round_any (v : List Nat) (add : Nat) (hv : v.length = 8) (h32 : All32 v) (w : World) :
    Calls Tryd.prog 23 #[.agg (u32s v).toArray, .int .u32 add] w fun z w' => z = .returned (.agg (u32s (roundA v add)).toArray) ∧ Below w.heap.size w w' := by
  match v, hv with
  | [a, b, c, d, e, f, g, h], _ => exact round_all a b c d e f g h add (h32 a (by simp)) (h32 b (by simp)) (h32 c (by simp)) (h32 e (by simp)) (h32 f (by simp)) (h32 g (by simp)) w
end Go.Proofs.YtfaiblngchdpmaaDoor
