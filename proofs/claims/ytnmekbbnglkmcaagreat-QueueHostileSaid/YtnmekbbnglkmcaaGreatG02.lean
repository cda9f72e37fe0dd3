import Derived.Laws.OwnMore
import Derived.Shelf.Small.Bits
import Derived.Shelf.Strconv.Itoa0
import Derived.Shelf.Sort.Plain
import Derived.Shelf.Slices.Equal
import Derived.Ground.Names2Prog
import Derived.Shelf.Slices.Clone
import Derived.Shelf.Slices.SearchI
import Derived.Shelf.Slices.Delete
import Derived.Shelf.Slices.Cells
import Derived.Shelf.Slices.In.SortNone
import Derived.Shelf.Slices.Empties
import Derived.Shelf.Slices.Empties2
import Derived.Ground.SlgnProg
import Derived.Shelf.SlicesE.Clone
import Derived.Test.YtnmekbbnglkmcaaGreatProg
import Derived.Shelf.SlSorted.IsSorted
import Derived.Ground.SlsoProg
import Derived.Shelf.SlGeneric
import Derived.Shelf.SlicesQ.IndexFunc
import Derived.Ground.SlgfProg
import Derived.Lib.SliceRun
import Derived.Deep.RegionLaw
import Derived.Laws.AppendOwnNone
import Derived.Deep.RegionHeld3
import Derived.BigFrame
import Derived.Test.YtnmekbbnglkmcaaGreatG01
namespace Go.Proofs.YtnmekbbnglkmcaaGreat
open Go.RowKit Go.Lib
theorem infoI : (Tryz.prog.info? 3).map (fun i => (i.zero, i.size, i.bytes)) = some (some (.int .i64 0), 1, 8) := by kernel_rfl
theorem infoCh : (Tryz.prog.info? 76).map (fun i => (i.zero, i.size, i.bytes)) = some (some (.agg #[.int .i64 0, .slice none 0 0, .int .i64 0]), 3, 40) := by kernel_rfl
def OwnI (B : Nat) (W : World) (v : Value) (l : List Int) : Prop := W.ownsRow B 3 1 v l.length (l.map (Value.int .i64))
theorem OwnI.below {B : Nat} {w w' : World} {v : Value} {l : List Int} (h : OwnI B w v l) (hb : Below w.heap.size w w') : OwnI B w' v l := ownsRow_below h hb
theorem OwnI.base {B B' : Nat} {w : World} {v : Value} {l : List Int} (h : OwnI B w v l) (hb : B' ≤ B) : OwnI B' w v l := ownsRow_base h hb
theorem owns_stay {w : World} {B g : Nat} {e : TypeId} {s : Nat} {v : Value} {n : Nat} {xs : List Value} {cs : Array Value} {t : TypeId} {fr : Nat × Nat} (h : w.ownsRow B e s v n xs) (hg : w.heap[g]? = some (.cells cs t fr)) (hne : (t : Nat) ≠ e) (j : Nat) (u : Value) : (w.setCell ⟨g, j, none⟩ u).ownsRow B e s v n xs :=
 owns_keep h fun k cur _ hc => by
  rw [Below.heap_setCell _ _ _ _ (fun e' => by
   subst e'
   rw [hg] at hc
   injection hc with hc
   injection hc with _ hc _
   exact hne hc)]
  exact hc
theorem OwnI.stay {B g : Nat} {w : World} {v : Value} {l : List Int} {cs : Array Value} {t : TypeId} {fr : Nat × Nat} (h : OwnI B w v l) (hg : w.heap[g]? = some (.cells cs t fr)) (hne : (t : Nat) ≠ 3) (j : Nat) (u : Value) : OwnI B (w.setCell ⟨g, j, none⟩ u) v l := owns_stay h hg hne j u
theorem owns_slice {w : World} {B : Nat} {e : TypeId} {s : Nat} {v : Value} {n : Nat} {xs : List Value} (h : w.ownsRow B e s v n xs) : ∃ a c, v = .slice a n c ∧ n ≤ c ∧ c ≤ maxLen := by
 rcases h.2 with ⟨rfl, rfl⟩ | ⟨g, cap, cur, rfl, _, _, h1, h2, _⟩
 · exact ⟨none, 0, rfl, Nat.le_refl _, by decide⟩
 · exact ⟨_, cap, rfl, h1, h2⟩
theorem OwnI.shape {B : Nat} {w : World} {v : Value} {l : List Int} (h : OwnI B w v l) : ∃ a c, v = .slice a l.length c ∧ l.length ≤ c ∧ c ≤ maxLen := owns_slice h
theorem OwnI.lie {B : Nat} {w : World} {a : Option Addr} {n c : Nat} {l : List Int} (h : OwnI B w (.slice a n c) l) (h0 : l ≠ []) : ∃ g cur, a = some ⟨g, 0, none⟩ ∧ B ≤ g ∧ g < w.heap.size ∧ w.heap[g]? = some (.cells cur 3 (0, 0)) ∧ n = l.length ∧ n ≤ c ∧ c ≤ maxLen := by
 rcases h.2 with ⟨_, h1⟩ | ⟨g, cap, cur, hv, hb, hh, h1, h2, _⟩
 · exact absurd (List.length_eq_zero_iff.1 h1) h0
 · cases hv
   exact ⟨g, cur, rfl, hb, (Array.getElem?_eq_some_iff.1 hh).1, hh, rfl, h1, h2⟩
theorem OwnI.at {B : Nat} {w : World} {g n c : Nat} {l : List Int} (h : OwnI B w (.slice (some ⟨g, 0, none⟩) n c) l) (k : Nat) (hk : k < l.length) : w.cell? ⟨g, k, none⟩ = some (.int .i64 (l.getD k 0)) := by
 have h0 : w.ownsRow B 3 1 (.slice (some ⟨g, 0, none⟩) n c) l.length (l.map (Value.int .i64)) := h
 have hn : n = l.length := by obtain ⟨a, c', hv, _⟩ := h.shape; cases hv; rfl
 subst hn
 rw [World.ownsRow.cellAt h0 k (by omega)]
 simp [List.getD_eq_getElem?_getD, hk]
def chCells : List QCh → List Value → List Value
 | c :: r, d :: s => .int .i64 c.head :: d :: .int .i64 c.room :: chCells r s
 | [], _ => []
 | _ :: _, [] => []
theorem chCells_length {L : List QCh} {D : List Value} (h : D.length = L.length) : (chCells L D).length = L.length * 3 := by
 induction L generalizing D with
 | nil => cases D <;> rfl
 | cons c r ih =>
   cases D with
   | nil => simp at h
   | cons d s =>
     have := ih (D := s) (by simpa using h)
     simp only [chCells, List.length_cons]
     omega
theorem chCells_append {L M : List QCh} {D E : List Value} (h : D.length = L.length) : chCells (L ++ M) (D ++ E) = chCells L D ++ chCells M E := by
 induction L generalizing D with
 | nil =>
   have : D = [] := List.length_eq_zero_iff.1 (by simpa using h)
   subst this
   rfl
 | cons c r ih =>
   cases D with
   | nil => simp at h
   | cons d s =>
     have := ih (D := s) (by simpa using h)
     simp only [chCells, List.cons_append, this]
theorem chCells_at {L : List QCh} {D : List Value} (i : Nat) (c : QCh) (d : Value) (hc : L[i]? = some c) (hd : D[i]? = some d) :
 (chCells L D)[i * 3]? = some (.int .i64 c.head) ∧ (chCells L D)[i * 3 + 1]? = some d ∧ (chCells L D)[i * 3 + 2]? = some (.int .i64 c.room) := by
 induction L generalizing D i with
 | nil => simp at hc
 | cons c0 r ih =>
   cases D with
   | nil => simp at hd
   | cons d0 s =>
     cases i with
     | zero =>
       simp at hc hd
       subst hc
       subst hd
       exact ⟨rfl, rfl, rfl⟩
     | succ i =>
       have h := ih (D := s) i (by simpa using hc) (by simpa using hd)
       have e : chCells (c0 :: r) (d0 :: s) = .int .i64 c0.head :: d0 :: .int .i64 c0.room :: chCells r s := rfl
       rw [e, show (i + 1) * 3 = i * 3 + 1 + 1 + 1 by omega]
       exact h
theorem chCells_set {L : List QCh} {D : List Value} (h : D.length = L.length) (i : Nat) (d : Value) : (chCells L D).set (i * 3 + 1) d = chCells L (D.set i d) := by
 induction L generalizing D i with
 | nil => cases D <;> rfl
 | cons c r ih =>
   cases D with
   | nil => simp at h
   | cons d0 s =>
     have e : ∀ s : List Value, ∀ d0, chCells (c :: r) (d0 :: s) = .int .i64 c.head :: d0 :: .int .i64 c.room :: chCells r s := fun _ _ => rfl
     cases i with
     | zero => rfl
     | succ i =>
       rw [List.set_cons_succ, e, e, show (i + 1) * 3 + 1 = (i * 3 + 1) + 1 + 1 + 1 by omega, ← ih (D := s) (by simpa using h) i]
       rfl
theorem chCells_one {L : List QCh} {D : List Value} (h : ∀ d ∈ D, d.oneCell' = true) : ∀ u ∈ chCells L D, u.oneCell' = true := by
 induction L generalizing D with
 | nil => intro u hu; cases D <;> cases hu
 | cons c r ih =>
   cases D with
   | nil => intro u hu; cases hu
   | cons d s =>
     intro u hu
     have e : chCells (c :: r) (d :: s) = .int .i64 c.head :: d :: .int .i64 c.room :: chCells r s := rfl
     rw [e] at hu
     rcases List.mem_cons.1 hu with rfl | hu
     · rfl
     rcases List.mem_cons.1 hu with rfl | hu
     · exact h _ (by simp)
     rcases List.mem_cons.1 hu with rfl | hu
     · rfl
     exact ih (fun d hd => h d (List.mem_cons_of_mem _ hd)) u hu
structure OwnC (B : Nat) (W : World) (v : Value) (L : List QCh) (D : List Value) : Prop where
 len : D.length = L.length
 row : W.ownsRow B 76 3 v L.length (chCells L D)
 ds : ∀ (i : Nat) (d : Value) (c : QCh), D[i]? = some d → L[i]? = some c → OwnI B W d c.ds
theorem OwnC.below {B : Nat} {w w' : World} {v : Value} {L : List QCh} {D : List Value} (h : OwnC B w v L D) (hb : Below w.heap.size w w') : OwnC B w' v L D := ⟨h.len, ownsRow_below h.row hb, fun i d c hd hc => (h.ds i d c hd hc).below hb⟩
theorem OwnC.base {B B' : Nat} {w : World} {v : Value} {L : List QCh} {D : List Value} (h : OwnC B w v L D) (hb : B' ≤ B) : OwnC B' w v L D := ⟨h.len, ownsRow_base h.row hb, fun i d c hd hc => (h.ds i d c hd hc).base hb⟩
theorem OwnC.stay {B g : Nat} {w : World} {v : Value} {L : List QCh} {D : List Value} {cs : Array Value} {t : TypeId} {fr : Nat × Nat} (h : OwnC B w v L D) (hg : w.heap[g]? = some (.cells cs t fr)) (h1 : (t : Nat) ≠ 3) (h2 : (t : Nat) ≠ 76) (j : Nat) (u : Value) : OwnC B (w.setCell ⟨g, j, none⟩ u) v L D :=
 ⟨h.len, owns_stay h.row hg h2 j u, fun i d c hd hc => (h.ds i d c hd hc).stay hg h1 j u⟩
theorem OwnC.shape {B : Nat} {w : World} {v : Value} {L : List QCh} {D : List Value} (h : OwnC B w v L D) : ∃ a c, v = .slice a L.length c ∧ L.length ≤ c ∧ c ≤ maxLen := owns_slice h.row
theorem OwnC.lie {B : Nat} {w : World} {a : Option Addr} {n c : Nat} {L : List QCh} {D : List Value} (h : OwnC B w (.slice a n c) L D) (h0 : 0 < L.length) : ∃ g cur, a = some ⟨g, 0, none⟩ ∧ B ≤ g ∧ g < w.heap.size ∧ w.heap[g]? = some (.cells cur 76 (0, 0)) ∧ n = L.length ∧ n ≤ c ∧ c ≤ maxLen := by
 rcases h.row.2 with ⟨_, h1⟩ | ⟨g, cap, cur, hv, hb, hh, h1, h2, _⟩
 · omega
 · cases hv
   exact ⟨g, cur, rfl, hb, (Array.getElem?_eq_some_iff.1 hh).1, hh, rfl, h1, h2⟩
theorem OwnC.at {B : Nat} {w : World} {g n c : Nat} {L : List QCh} {D : List Value} (h : OwnC B w (.slice (some ⟨g, 0, none⟩) n c) L D) (i : Nat) (hi : i < L.length) :
 ∃ (x : QCh) (d : Value), L[i]? = some x ∧ D[i]? = some d ∧ w.cell? ⟨g, i * 3, none⟩ = some (.int .i64 x.head) ∧ w.cell? ⟨g, i * 3 + 1, none⟩ = some d ∧ w.cell? ⟨g, i * 3 + 2, none⟩ = some (.int .i64 x.room) ∧ OwnI B w d x.ds := by
 have hn : n = L.length := by obtain ⟨a, c', hv, _⟩ := h.shape; cases hv; rfl
 subst hn
 have hx : L[i]? = some L[i] := List.getElem?_eq_getElem hi
 have hd : D[i]? = some (D[i]'(by rw [h.len]; exact hi)) := List.getElem?_eq_getElem _
 obtain ⟨e1, e2, e3⟩ := chCells_at i _ _ hx hd
 exact ⟨_, _, hx, hd, (World.ownsRow.cellAt h.row _ (by omega)).trans e1, (World.ownsRow.cellAt h.row _ (by omega)).trans e2, (World.ownsRow.cellAt h.row _ (by omega)).trans e3, h.ds i _ _ hd hx⟩
structure IsQ (B : Nat) (W : World) (F C : Value) (q : QQ) (D : List Value) : Prop where
 free : OwnI B W F q.free
 chains : OwnC B W C q.chains D
 apart : ∀ (i : Nat) (d : Value) (p : Nat), D[i]? = some d → d.ownBlock = some p → F.ownBlock ≠ some p
theorem IsQ.below {B : Nat} {w w' : World} {F C : Value} {q : QQ} {D : List Value} (h : IsQ B w F C q D) (hb : Below w.heap.size w w') : IsQ B w' F C q D := ⟨h.free.below hb, h.chains.below hb, h.apart⟩
theorem IsQ.base {B B' : Nat} {w : World} {F C : Value} {q : QQ} {D : List Value} (h : IsQ B w F C q D) (hb : B' ≤ B) : IsQ B' w F C q D := ⟨h.free.base hb, h.chains.base hb, h.apart⟩
theorem IsQ.stay {B g : Nat} {w : World} {F C : Value} {q : QQ} {D : List Value} {cs : Array Value} {t : TypeId} {fr : Nat × Nat} (h : IsQ B w F C q D) (hg : w.heap[g]? = some (.cells cs t fr)) (h1 : (t : Nat) ≠ 3) (h2 : (t : Nat) ≠ 76) (j : Nat) (u : Value) : IsQ B (w.setCell ⟨g, j, none⟩ u) F C q D :=
 ⟨h.free.stay hg h1 j u, h.chains.stay hg h1 h2 j u, h.apart⟩
theorem IsQ.shape {B : Nat} {w : World} {F C : Value} {q : QQ} {D : List Value} (h : IsQ B w F C q D) : ∃ a n c a' n' c', F = .slice a n c ∧ C = .slice a' n' c' ∧ n = q.free.length ∧ n' = q.chains.length ∧ n ≤ c ∧ c ≤ maxLen ∧ n' ≤ c' ∧ c' ≤ maxLen := by
 obtain ⟨a, c, h1, h2, h3⟩ := h.free.shape
 obtain ⟨a', c', h4, h5, h6⟩ := h.chains.shape
 exact ⟨a, _, c, a', _, c', h1, h4, rfl, rfl, h2, h3, h5, h6⟩
theorem IsQ.as {B : Nat} {w : World} {F C : Value} {q q' : QQ} {D : List Value} (h : IsQ B w F C q D) (h1 : q'.free = q.free) (h2 : q'.chains = q.chains) : IsQ B w F C q' D := by
 refine ⟨?_, ?_, h.apart⟩
 · rw [h1]; exact h.free
 · rw [h2]; exact h.chains
theorem row_put {X : World} {g : Nat} {cs : Array Value} {t : TypeId} {fr : Nat × Nat} (h : X.heap[g]? = some (.cells cs t fr)) (i : Nat) (v : Value) : (X.setCell ⟨g, i, none⟩ v).heap[g]? = some (.cells (cs.setIfInBounds i v) t fr) := by simp [World.setCell, Array.getElem?_modify, h]
theorem row_new {w : World} {g : Nat} {o : Obj} (h : w.heap[g]? = some o) (o' : Obj) : (w.alloc o').heap[g]? = some o := row_keep h ((Below.refl _ _).alloc (Nat.le_refl _) o')
structure Turn (w w' : World) (g : Nat) : Prop where
 below : ∀ B, B ≤ g → B ≤ w.heap.size → Below B w w'
 row : ∀ (k : Nat) (o : Obj), w.heap[k]? = some o → k ≠ g → w'.heap[k]? = some o
theorem Turn.of_below {w w' : World} (h : Below w.heap.size w w') (g : Nat) : Turn w w' g := ⟨fun _ _ h2 => h.mono h2, fun _ _ hk _ => row_keep hk h⟩
theorem Turn.owns {w w' : World} {g B n s : Nat} {e : TypeId} {v : Value} {xs : List Value} (h : Turn w w' g) (ho : w.ownsRow B e s v n xs) (hne : v.ownBlock ≠ some g) : w'.ownsRow B e s v n xs :=
 owns_keep ho fun k _ hk hc => h.row k _ hc (fun e => hne (by rw [← e]; exact hk))
structure Spare (w w' : World) (B : Nat) (T : Nat → Bool) : Prop where
 below : Below B w w'
 row : ∀ (k : Nat) (cs : Array Value) (t : TypeId) (fr : Nat × Nat), w.heap[k]? = some (.cells cs t fr) → T t = false → w'.heap[k]? = some (.cells cs t fr)
theorem Spare.of_below {w w' : World} {B : Nat} (h : Below w.heap.size w w') (hB : B ≤ w.heap.size) (T : Nat → Bool) : Spare w w' B T := ⟨h.mono hB, fun _ _ _ _ hk _ => row_keep hk h⟩
theorem Spare.trans {w w1 w' : World} {B : Nat} {T : Nat → Bool} (h : Spare w w1 B T) (h' : Spare w1 w' B T) : Spare w w' B T := ⟨h.below.trans h'.below, fun k cs t fr hk ht => h'.row k cs t fr (h.row k cs t fr hk ht) ht⟩
theorem Spare.set {w : World} {B g : Nat} {T : Nat → Bool} {cs : Array Value} {t : TypeId} {fr : Nat × Nat} (hg : w.heap[g]? = some (.cells cs t fr)) (ht : T t = true) (hB : B ≤ g) (i : Nat) (u : Value) : Spare w (w.setCell ⟨g, i, none⟩ u) B T :=
 ⟨(Below.refl _ _).setCell hB _, fun k ds s fs hk hs => one_other hk _ _ (fun e => by
  have e : g = k := e
  subst e
  rw [hg] at hk
  injection hk with hk
  injection hk with _ hk _
  subst hk
  rw [ht] at hs
  cases hs)⟩
theorem Spare.turn {w w' : World} {B g : Nat} {T : Nat → Bool} {cs : Array Value} {t : TypeId} {fr : Nat × Nat} (h : Turn w w' g) (hg : w.heap[g]? = some (.cells cs t fr)) (ht : T t = true) (hB : B ≤ g) : Spare w w' B T :=
 ⟨h.below B hB (Nat.le_of_lt (Nat.lt_of_le_of_lt hB (Array.getElem?_eq_some_iff.1 hg).1)), fun k ds s fs hk hs => h.row k _ hk (fun e => by
  subst e
  rw [hg] at hk
  injection hk with hk
  injection hk with _ hk _
  subst hk
  rw [ht] at hs
  cases hs)⟩
theorem Spare.mono {w w' : World} {B B' : Nat} {T T' : Nat → Bool} (h : Spare w w' B T) (hB : B' ≤ B) (hT : ∀ t, T' t = false → T t = false) : Spare w w' B' T' := ⟨h.below.mono hB, fun k cs t fr hk ht => h.row k cs t fr hk (hT t ht)⟩
theorem Spare.size {w w' : World} {B : Nat} {T : Nat → Bool} (h : Spare w w' B T) : w.heap.size ≤ w'.heap.size := h.below.size
def dirtyW (t : Nat) : Bool := t == 74
def dirtyQ (t : Nat) : Bool := t == 74 || (t == 3 || t == 76)
theorem Spare.owns {w w' : World} {B B2 n s : Nat} {T : Nat → Bool} {e : TypeId} {v : Value} {xs : List Value} (h : Spare w w' B T) (ho : w.ownsRow B2 e s v n xs) (hT : T e = false) : w'.ownsRow B2 e s v n xs :=
 owns_keep ho fun k _ _ hc => h.row k _ e _ hc hT
end Go.Proofs.YtnmekbbnglkmcaaGreat
namespace Go.Proofs
open Go.Shelf
def Tryz.lays189_ren : Go.Shelf.Ren := ⟨fun | 189 => 42 | 125 => 81 | 257 => 80 | 128 => 103 | 129 => 104 | 294 => 95 | 295 => 96 | 296 => 97 | 297 => 98 | 298 => 99 | 299 => 100 | 216 => 79 | 300 => 101 | 301 => 102 | 328 => 111 | 329 => 112 | 330 => 113 | 331 => 114 | 332 => 115 | 215 => 94 | 343 => 119 | n => n, fun | 28 => 22 | 3 => 3 | 46 => 131 | 0 => 0 | 51 => 51 | 53 => 88 | 4 => 4 | 183 => 146 | 182 => 145 | 131 => 150 | 5 => 5 | 9 => 9 | 218 => 160 | 222 => 164 | 228 => 169 | 229 => 170 | n => n, fun | n => n⟩
theorem Tryz.lays189 : Go.Proofs.Lays.n189 Tryz.prog Tryz.lays189_ren := {
 mixed := by kernel_rfl
 f125 := Tryz.func81.trans (congrArg some (by kernel_rfl))
 f128 := Tryz.func103.trans (congrArg some (by kernel_rfl))
 f129 := Tryz.func104.trans (congrArg some (by kernel_rfl))
 f189 := Tryz.func42.trans (congrArg some (by kernel_rfl))
 f215 := Tryz.func94.trans (congrArg some (by kernel_rfl))
 f216 := Tryz.func79.trans (congrArg some (by kernel_rfl))
 f257 := Tryz.func80.trans (congrArg some (by kernel_rfl))
 f294 := Tryz.func95.trans (congrArg some (by kernel_rfl))
 f295 := Tryz.func96.trans (congrArg some (by kernel_rfl))
 f296 := Tryz.func97.trans (congrArg some (by kernel_rfl))
 f297 := Tryz.func98.trans (congrArg some (by kernel_rfl))
 f298 := Tryz.func99.trans (congrArg some (by kernel_rfl))
 f299 := Tryz.func100.trans (congrArg some (by kernel_rfl))
 f300 := Tryz.func101.trans (congrArg some (by kernel_rfl))
 f301 := Tryz.func102.trans (congrArg some (by kernel_rfl))
 f328 := Tryz.func111.trans (congrArg some (by kernel_rfl))
 f329 := Tryz.func112.trans (congrArg some (by kernel_rfl))
 f330 := Tryz.func113.trans (congrArg some (by kernel_rfl))
 f331 := Tryz.func114.trans (congrArg some (by kernel_rfl))
 f332 := Tryz.func115.trans (congrArg some (by kernel_rfl))
 f343 := Tryz.func119.trans (congrArg some (by kernel_rfl))
 t0 := Tryz.underlying0
 a0 := Tryz.isAgg0
 z0 := Tryz.sizeOf0
 v0 := Tryz.zeroValue0
 t3 := Tryz.underlying3
 a3 := Tryz.isAgg3
 z3 := Tryz.sizeOf3
 v3 := Tryz.zeroValue3
 t4 := Tryz.underlying4
 a4 := Tryz.isAgg4
 z4 := Tryz.sizeOf4
 v4 := Tryz.zeroValue4
 t5 := Tryz.underlying5
 a5 := Tryz.isAgg5
 z5 := Tryz.sizeOf5
 v5 := Tryz.zeroValue5
 t9 := Tryz.underlying9
 a9 := Tryz.isAgg9
 z9 := Tryz.sizeOf9
 v9 := Tryz.zeroValue9
 t28 := Tryz.underlying22
 a28 := Tryz.isAgg22
 z28 := Tryz.sizeOf22
 v28 := Tryz.zeroValue22
 t46 := Tryz.underlying131
 a46 := Tryz.isAgg131
 z46 := Tryz.sizeOf131
 v46 := Tryz.zeroValue131
 t51 := Tryz.underlying51
 a51 := Tryz.isAgg51
 z51 := Tryz.sizeOf51
 v51 := Tryz.zeroValue51
 t53 := Tryz.underlying88
 a53 := Tryz.isAgg88
 z53 := Tryz.sizeOf88
 v53 := Tryz.zeroValue88
 t131 := Tryz.underlying150
 a131 := Tryz.isAgg150
 z131 := Tryz.sizeOf150
 v131 := Tryz.zeroValue150
 t182 := Tryz.underlying145
 a182 := Tryz.isAgg145
 z182 := Tryz.sizeOf145
 v182 := Tryz.zeroValue145
 t183 := Tryz.underlying146
 a183 := Tryz.isAgg146
 z183 := Tryz.sizeOf146
 v183 := Tryz.zeroValue146
 t218 := Tryz.underlying160
 a218 := Tryz.isAgg160
 z218 := Tryz.sizeOf160
 v218 := Tryz.zeroValue160
 t222 := Tryz.underlying164
 a222 := Tryz.isAgg164
 z222 := Tryz.sizeOf164
 v222 := Tryz.zeroValue164
 t228 := Tryz.underlying169
 a228 := Tryz.isAgg169
 z228 := Tryz.sizeOf169
 v228 := Tryz.zeroValue169
 t229 := Tryz.underlying170
 a229 := Tryz.isAgg170
 z229 := Tryz.sizeOf170
 v229 := Tryz.zeroValue170 }
open Go.Sort Go.RowKit in
theorem Tryz.slices_Sort_int (blk off cap : Nat) (zs : List Int) (w : World) (hH : Holds (Value.int .i64) w blk off zs.toArray) (hblk : blk < w.heap.size) (hsz : zs.length < 4611686018427387904) :
 Calls Tryz.prog 42 #[.slice (some ⟨blk, off, none⟩) zs.length cap] w fun e w' =>
  e = .returned (.tuple #[]) ∧ ∃ n os, w' = grow (putRow (Value.int .i64) (Sort.ahead w n) blk off (zs.mergeSort fun x y => decide (x ≤ y)).toArray) os := Any.slices_Sort_int Tryz.lays189 blk off cap zs w hH hblk hsz
def Tryz.lays111_ren : Go.Shelf.Ren := ⟨fun | 111 => 43 | n => n, fun | 28 => 22 | 3 => 3 | 4 => 4 | 0 => 0 | n => n, fun | n => n⟩
theorem Tryz.lays111 : Go.Proofs.Lays.n111 Tryz.prog Tryz.lays111_ren := {
 mixed := by kernel_rfl
 f111 := Tryz.func43.trans (congrArg some (by kernel_rfl))
 t0 := Tryz.underlying0
 a0 := Tryz.isAgg0
 z0 := Tryz.sizeOf0
 v0 := Tryz.zeroValue0
 t3 := Tryz.underlying3
 a3 := Tryz.isAgg3
 z3 := Tryz.sizeOf3
 v3 := Tryz.zeroValue3
 t4 := Tryz.underlying4
 a4 := Tryz.isAgg4
 z4 := Tryz.sizeOf4
 v4 := Tryz.zeroValue4
 t28 := Tryz.underlying22
 a28 := Tryz.isAgg22
 z28 := Tryz.sizeOf22
 v28 := Tryz.zeroValue22 }
open Go.RowKit Go.Lib in
theorem Tryz.slices_Equal_int (b1 o1 n c b2 o2 m d : Nat) (xs ys : List Int) (w : World) (hx : n ≤ xs.length) (hy : m ≤ ys.length) (hbig : n ≤ 9223372036854775807) (hbig2 : m ≤ 9223372036854775807) (hc1 : ∀ j, j < xs.length → w.cell? ⟨b1, o1 + j, none⟩ = some (.int .i64 (xs.getD j 0))) (hc2 : ∀ j, j < ys.length → w.cell? ⟨b2, o2 + j, none⟩ = some (.int .i64 (ys.getD j 0))) :
 Calls Tryz.prog 43 #[.slice (some ⟨b1, o1, none⟩) n c, .slice (some ⟨b2, o2, none⟩) m d] w fun e w' => e = .returned (.bool (xs.take n == ys.take m)) ∧ ∃ q, w' = w.drewN q := Any.slices_Equal_int Tryz.lays111 b1 o1 n c b2 o2 m d xs ys w hx hy hbig hbig2 hc1 hc2
open Go.RowKit Go.Lib in
theorem Tryz.slices_Equal_int_empty (a1 a2 : Option Addr) (c m d : Nat) (w : World) (hbig2 : m ≤ 9223372036854775807) :
 Calls Tryz.prog 43 #[.slice a1 0 c, .slice a2 m d] w fun e w' => e = .returned (.bool (decide (m = 0))) ∧ w' = w := Any.slices_Equal_int_empty Tryz.lays111 a1 a2 c m d w hbig2
def Tryz.laysNm215_ren : Go.Shelf.Ren := ⟨fun | 15 => 40 | n => n, fun | 22 => 22 | 3 => 3 | 4 => 4 | n => n, fun | n => n⟩
theorem Tryz.laysNm215 : Go.Proofs.Lays2.n15 Tryz.prog Tryz.laysNm215_ren := {
 mixed := by kernel_rfl
 f15 := Tryz.func40.trans (congrArg some (by kernel_rfl))
 t3 := Tryz.underlying3
 a3 := Tryz.isAgg3
 z3 := Tryz.sizeOf3
 v3 := Tryz.zeroValue3
 t4 := Tryz.underlying4
 a4 := Tryz.isAgg4
 z4 := Tryz.sizeOf4
 v4 := Tryz.zeroValue4
 t22 := Tryz.underlying22
 a22 := Tryz.isAgg22
 z22 := Tryz.sizeOf22
 v22 := Tryz.zeroValue22
 i3 := by kernel_rfl }
open Go.RowKit Go.Lib in
theorem Tryz.slices_Clone_int (b off n c : Nat) (zs : List Int) (w : World) (hz : n ≤ zs.length) (hbig : n * 8 ≤ 140737488355328) (hc : ∀ j, j < zs.length → w.cell? ⟨b, off + j, none⟩ = some (.int .i64 (zs.getD j 0))) :
 Calls Tryz.prog 40 #[.slice (some ⟨b, off, none⟩) n c] w fun e w' => ∃ v', e = .returned v' ∧ w'.ownsRow w.heap.size 3 1 v' n ((zs.take n).map (Value.int .i64)) ∧ v' ≠ .slice none 0 0 ∧ Below w.heap.size w w' := Any.slices_Clone_int Tryz.laysNm215 b off n c zs w hz hbig hc
open Go.RowKit Go.Lib in
theorem Tryz.slices_Clone_int_nil (n c : Nat) (w : World) :
 Calls Tryz.prog 40 #[.slice none n c] w fun e w' => e = .returned (.slice none 0 0) ∧ w' = w := Any.slices_Clone_int_nil Tryz.laysNm215 n c w
open Go.RowKit Go.Lib in
def Tryz.laysNm231_ren : Go.Shelf.Ren := ⟨fun | 31 => 79 | 37 => 94 | n => n, fun | 3 => 3 | 4 => 4 | n => n, fun | n => n⟩
open Go.RowKit Go.Lib in
def Tryz.laysNm223_ren : Go.Shelf.Ren := ⟨fun | 23 => 57 | n => n, fun | 22 => 22 | 3 => 3 | 4 => 4 | 0 => 0 | n => n, fun | n => n⟩
theorem Tryz.laysNm223 : Go.Proofs.Lays2.n23 Tryz.prog Tryz.laysNm223_ren := {
 mixed := by kernel_rfl
 f23 := Tryz.func57.trans (congrArg some (by kernel_rfl))
 t0 := Tryz.underlying0
 a0 := Tryz.isAgg0
 z0 := Tryz.sizeOf0
 v0 := Tryz.zeroValue0
 t3 := Tryz.underlying3
 a3 := Tryz.isAgg3
 z3 := Tryz.sizeOf3
 v3 := Tryz.zeroValue3
 t4 := Tryz.underlying4
 a4 := Tryz.isAgg4
 z4 := Tryz.sizeOf4
 v4 := Tryz.zeroValue4
 t22 := Tryz.underlying22
 a22 := Tryz.isAgg22
 z22 := Tryz.sizeOf22
 v22 := Tryz.zeroValue22
 i3 := by kernel_rfl }
open Go.RowKit Go.Lib Go.Sort in
theorem Tryz.slices_Delete_int (blk off cap i j : Nat) (zs : List Int) (w : World) (hH : Holds (Value.int .i64) w blk off zs.toArray) (hcap : zs.length ≤ cap) (hm : cap ≤ 9223372036854775807) (hij : i ≤ j) (hj : j ≤ zs.length) :
 Calls Tryz.prog 57 #[.slice (some ⟨blk, off, none⟩) zs.length cap, .int .i64 i, .int .i64 j] w fun e w' => e = .returned (.slice (some ⟨blk, off, none⟩) (zs.length - (j - i)) cap) ∧ ∃ q, w' = putRow (Value.int .i64) (Sort.ahead w q) blk off (zs.take i ++ zs.drop j ++ List.replicate (j - i) 0).toArray := Any.slices_Delete_int Tryz.laysNm223 blk off cap i j zs w hH hcap hm hij hj
def Tryz.laysIsSorted_ren : Go.Shelf.Ren := ⟨fun | 10 => 39 | 18 => 79 | 24 => 94 | n => n, fun | 22 => 22 | 24 => 3 | 4 => 4 | 3 => 3 | 0 => 0 | n => n, fun | n => n⟩
theorem Tryz.laysIsSorted : Go.Proofs.SlLaysO.n10 Tryz.prog Tryz.laysIsSorted_ren := {
 mixed := by kernel_rfl
 f10 := ⟨Tryz.f39.name, by decide, Tryz.func39.trans (congrArg some (by kernel_rfl))⟩
 f18 := ⟨Tryz.f79.name, by decide, Tryz.func79.trans (congrArg some (by kernel_rfl))⟩
 f24 := ⟨Tryz.f94.name, by decide, Tryz.func94.trans (congrArg some (by kernel_rfl))⟩
 t0 := Tryz.underlying0
 a0 := Tryz.isAgg0
 z0 := Tryz.sizeOf0
 v0 := Tryz.zeroValue0
 t3 := Tryz.underlying3
 a3 := Tryz.isAgg3
 z3 := Tryz.sizeOf3
 v3 := Tryz.zeroValue3
 t4 := Tryz.underlying4
 a4 := Tryz.isAgg4
 z4 := Tryz.sizeOf4
 v4 := Tryz.zeroValue4
 t22 := Tryz.underlying22
 a22 := Tryz.isAgg22
 z22 := Tryz.sizeOf22
 v22 := Tryz.zeroValue22
 t24 := Tryz.underlying3
 a24 := Tryz.isAgg3
 z24 := Tryz.sizeOf3
 v24 := Tryz.zeroValue3 }
def Tryz.laysCloneC_ren : Go.Shelf.Ren := ⟨fun | 41 => 86 | n => n, fun | 22 => 28 | 23 => 76 | 4 => 4 | n => n, fun | n => n⟩
theorem Tryz.laysCloneC : Go.Proofs.SlLaysE0.n41 Tryz.prog Tryz.laysCloneC_ren := {
 mixed := by kernel_rfl
 f41 := ⟨Tryz.f86.name, by decide, Tryz.func86.trans (congrArg some (by kernel_rfl))⟩
 t4 := Tryz.underlying4
 a4 := Tryz.isAgg4
 z4 := Tryz.sizeOf4
 v4 := Tryz.zeroValue4
 t22 := Tryz.underlying28
 a22 := Tryz.isAgg28
 z22 := Tryz.sizeOf28
 v22 := Tryz.zeroValue28 }
def Tryz.laysFindC_ren : Go.Shelf.Ren := ⟨fun | 6 => 76 | n => n, fun | 22 => 28 | 23 => 76 | 25 => 95 | 3 => 3 | 0 => 0 | 4 => 4 | n => n, fun | n => n⟩
theorem Tryz.laysFindC : Go.Proofs.SlLaysH0.n6 Tryz.prog Tryz.laysFindC_ren := {
 mixed := by kernel_rfl
 f6 := ⟨Tryz.f76.name, by decide, Tryz.func76.trans (congrArg some (by kernel_rfl))⟩
 t0 := Tryz.underlying0
 a0 := Tryz.isAgg0
 z0 := Tryz.sizeOf0
 v0 := Tryz.zeroValue0
 t3 := Tryz.underlying3
 a3 := Tryz.isAgg3
 z3 := Tryz.sizeOf3
 v3 := Tryz.zeroValue3
 t4 := Tryz.underlying4
 a4 := Tryz.isAgg4
 z4 := Tryz.sizeOf4
 v4 := Tryz.zeroValue4
 t22 := Tryz.underlying28
 a22 := Tryz.isAgg28
 z22 := Tryz.sizeOf28
 v22 := Tryz.zeroValue28
 t25 := Tryz.underlying95
 a25 := Tryz.isAgg95
 z25 := Tryz.sizeOf95
 v25 := Tryz.zeroValue95 }
end Go.Proofs
namespace Go.Proofs.YtnmekbbnglkmcaaGreat
open Go.RowKit Go.Lib
theorem cloneI_any {B : Nat} (v : Value) (l : List Int) (w : World) (hv : OwnI B w v l) (hl : l.length ≤ 1000) :
 Calls Tryz.prog 40 #[v] w fun e w' => ∃ r, e = .returned r ∧ OwnI w.heap.size w' r l ∧ Below w.heap.size w w' := by
 obtain ⟨a, c, rfl, h1, h2⟩ := hv.shape
 cases a with
 | none =>
   have hl0 : l = [] := by
    rcases hv.2 with ⟨_, h0⟩ | ⟨g, cap, cur, hx, _⟩
    · exact List.length_eq_zero_iff.1 h0
    · cases hx
   subst hl0
   refine (Tryz.slices_Clone_int_nil _ _ _).mono ?_
   rintro e w' ⟨rfl, rfl⟩
   exact ⟨_, rfl, World.ownsRow_nil _ _ _ _, Below.refl _ _⟩
 | some a =>
   obtain ⟨g, rfl⟩ : ∃ g, a = ⟨g, 0, none⟩ := by
    rcases hv.2 with ⟨hx, _⟩ | ⟨g, cap, cur, hx, _⟩
    · cases hx
    · cases hx; exact ⟨g, rfl⟩
   refine (Tryz.slices_Clone_int g 0 l.length c l w (Nat.le_refl _) (by omega) (fun j hj => by rw [Nat.zero_add]; exact hv.at j hj)).mono ?_
   rintro e w' ⟨r, rfl, hr, _, hb⟩
   rw [List.take_length] at hr
   exact ⟨r, rfl, hr, hb⟩
theorem cloneI_front {B : Nat} (g n c : Nat) (l : List Int) (k : Nat) (w : World) (hv : OwnI B w (.slice (some ⟨g, 0, none⟩) n c) l) (hk : k ≤ l.length) (hl : l.length ≤ 1000) :
 Calls Tryz.prog 40 #[.slice (some ⟨g, 0, none⟩) k c] w fun e w' => ∃ r, e = .returned r ∧ OwnI w.heap.size w' r (l.take k) ∧ Below w.heap.size w w' := by
 refine (Tryz.slices_Clone_int g 0 k c l w hk (by omega) (fun j hj => by rw [Nat.zero_add]; exact hv.at j hj)).mono ?_
 rintro e w' ⟨r, rfl, hr, _, hb⟩
 refine ⟨r, rfl, ?_, hb⟩
 unfold OwnI
 rw [List.length_take, Nat.min_eq_left hk]
 exact hr
theorem isSorted_any {B : Nat} (v : Value) (l : List Int) (w : World) (hv : OwnI B w v l) (hl : l.length ≤ 1000) (hs : l.Pairwise (· ≤ ·)) :
 Calls Tryz.prog 39 #[v] w fun e w' => e = .returned (.bool true) ∧ Below w.heap.size w w' := by
 obtain ⟨a, c, rfl, h1, h2⟩ := hv.shape
 by_cases h0 : l = []
 · subst h0
   refine (AnyO.slices_IsSorted_int_none Tryz.laysIsSorted a c w).mono ?_
   rintro e w' ⟨rfl, rfl⟩
   exact ⟨rfl, Below.refl _ _⟩
 · obtain ⟨g, cur, rfl, _⟩ := hv.lie h0
   have hat : ∀ i, i < l.length → (l.toArray)[i]! = l.getD i 0 := fun i hi => by simp [List.getD_eq_getElem?_getD, hi]
   have h := AnyO.slices_IsSorted_int Tryz.laysIsSorted g 0 c l.toArray w (fun i hi => by
    have hi : i < l.length := by simpa using hi
    rw [Nat.zero_add, hv.at i hi, hat i hi]) (by simp; omega)
   have hd : Lib.downOK (fun x y => decide (x < y)) l.toArray (l.toArray.size - 1) = true := by
    rw [Lib.downOK_iff]
    intro i hi
    have hi : i + 1 < l.length := by simp at hi; omega
    rw [hat _ hi, hat _ (by omega), decide_eq_false_iff_not]
    have := List.pairwise_iff_getElem.1 hs i (i + 1) (by omega) hi (by omega)
    simp [List.getD_eq_getElem?_getD, hi, show i < l.length by omega]
    omega
   rw [hd] at h
   refine h.mono ?_
   rintro e w' ⟨rfl, q, rfl⟩
   exact ⟨rfl, below_drewN (Below.refl _ _) q⟩
theorem equalI_any {B1 B2 : Nat} (u v : Value) (l : List Int) (w : World) (hu : OwnI B1 w u l) (hv : OwnI B2 w v l) (hl : l.length ≤ 1000) :
 Calls Tryz.prog 43 #[u, v] w fun e w' => e = .returned (.bool true) ∧ Below w.heap.size w w' := by
 obtain ⟨a, c, rfl, h1, h2⟩ := hu.shape
 obtain ⟨a', c', rfl, h3, h4⟩ := hv.shape
 have hm : maxLen ≤ 9223372036854775807 := by decide
 by_cases h0 : l = []
 · subst h0
   refine (Tryz.slices_Equal_int_empty a a' c 0 c' w (by omega)).mono ?_
   rintro e w' ⟨rfl, rfl⟩
   exact ⟨rfl, Below.refl _ _⟩
 · obtain ⟨g, cur, rfl, _⟩ := hu.lie h0
   obtain ⟨g', cur', rfl, _⟩ := hv.lie h0
   refine (Tryz.slices_Equal_int g 0 l.length c g' 0 l.length c' l l w (Nat.le_refl _) (Nat.le_refl _) (by omega) (by omega) (fun j hj => by rw [Nat.zero_add]; exact hu.at j hj) (fun j hj => by rw [Nat.zero_add]; exact hv.at j hj)).mono ?_
   rintro e w' ⟨rfl, q, rfl⟩
   exact ⟨by simp, below_drewN (Below.refl _ _) q⟩
theorem putRow_heap (enc : Int → Value) {w : World} {g off : Nat} {d : Array Int} {cur : Array Value} {t : TypeId} {fr : Nat × Nat} (h : w.heap[g]? = some (.cells cur t fr)) : (Sort.putRow enc w g off d).heap[g]? = some (.cells (Sort.putCells enc off d cur) t fr) := by
 unfold Sort.putRow Sort.mapBlock
 simp only [Array.getElem?_modify, if_true, h, Option.map_some]
 rfl
theorem putRow_other (enc : Int → Value) {w : World} {g off k : Nat} {d : Array Int} (hk : k ≠ g) : (Sort.putRow enc w g off d).heap[k]? = w.heap[k]? := by
 unfold Sort.putRow Sort.mapBlock
 simp only [Array.getElem?_modify, if_neg (fun e : g = k => hk e.symm)]
theorem putRow_turn (enc : Int → Value) (w : World) (g off q : Nat) (d : Array Int) : Turn w (Sort.putRow enc (Sort.ahead w q) g off d) g :=
 ⟨fun B hB _ => ⟨rfl, rfl, rfl, by simp [Sort.putRow, Sort.mapBlock], fun k hk => putRow_other enc (w := Sort.ahead w q) (show k ≠ g by omega)⟩, fun k o hk hne => by
  rw [putRow_other enc hne]
  exact hk⟩
theorem owns_putRow {B : Nat} {w : World} {g n c q : Nat} {l d : List Int} (h : OwnI B w (.slice (some ⟨g, 0, none⟩) n c) l) (hd : d.length = l.length) (m : Nat) (hm : m ≤ d.length) :
 OwnI B (Sort.putRow (Value.int .i64) (Sort.ahead w q) g 0 d.toArray) (.slice (some ⟨g, 0, none⟩) m c) (d.take m) := by
 rcases h.2 with ⟨hv, _⟩ | ⟨g', cap, cur, hv, hb, hh, h1, h2, h3, h4⟩
 · cases hv
 · cases hv
   refine ⟨by simp, .inr ⟨g, c, _, by rw [List.length_take, Nat.min_eq_left hm], hb, putRow_heap _ (w := Sort.ahead w q) hh, by rw [List.length_take]; omega, h2, ?_, ?_⟩⟩
   · simp only [Sort.putCells, Array.size_mapIdx]
     exact h3
   · apply List.ext_getElem?
     intro i
     rw [List.length_take, Nat.min_eq_left hm, Nat.mul_one]
     by_cases hi : i < m
     · have hc : i < cur.size := by omega
       rw [List.getElem?_take, if_pos hi, Array.getElem?_toList]
       simp only [Sort.putCells, Array.getElem?_mapIdx, Array.getElem?_eq_getElem hc, Option.map_some]
       have hid : i < d.length := by omega
       simp [hi, hid]
     · rw [List.getElem?_take, if_neg hi]
       rw [List.getElem?_eq_none (by simp; omega)]
theorem ownI_holds {B : Nat} {w : World} {g n c : Nat} {l : List Int} (h : OwnI B w (.slice (some ⟨g, 0, none⟩) n c) l) : Sort.Holds (Value.int .i64) w g 0 l.toArray := fun j hj => by
 have hj : j < l.length := by simpa using hj
 have hn : n = l.length := by obtain ⟨a, c', hv, _⟩ := h.shape; cases hv; rfl
 subst hn
 have h0 : w.ownsRow B 3 1 (.slice (some ⟨g, 0, none⟩) l.length c) l.length (l.map (Value.int .i64)) := h
 refine ⟨?_, by rw [Nat.zero_add]; exact World.ownsRow.frozenAt h0 j⟩
 rw [Nat.zero_add, h.at j hj]
 simp [List.getD_eq_getElem?_getD, hj]
theorem turn_grow {w w' : World} {g : Nat} (h : Turn w w' g) (os : Array Obj) : Turn w (Sort.grow w' os) g :=
 ⟨fun B h1 h2 => (h.below B h1 h2).trans ⟨rfl, rfl, rfl, by simp [Sort.grow], fun k hk => Sort.heap_grow_old w' os (Nat.lt_of_lt_of_le (Nat.lt_of_lt_of_le hk h2) (h.below B h1 h2).size)⟩, fun k o hk hne => by
  have h1 := h.row k o hk hne
  rw [Sort.heap_grow_old w' os (Array.getElem?_eq_some_iff.1 h1).1]
  exact h1⟩
theorem owns_grow {B : Nat} {w : World} {e : TypeId} {s : Nat} {v : Value} {n : Nat} {xs : List Value} (h : w.ownsRow B e s v n xs) (os : Array Obj) : (Sort.grow w os).ownsRow B e s v n xs :=
 owns_keep h fun k _ _ hc => by rw [Sort.heap_grow_old w os (Array.getElem?_eq_some_iff.1 hc).1]; exact hc
theorem sort_any {B : Nat} (g n c : Nat) (l : List Int) (w : World) (hv : OwnI B w (.slice (some ⟨g, 0, none⟩) n c) l) (hl : l.length ≤ 1000) :
 Calls Tryz.prog 42 #[.slice (some ⟨g, 0, none⟩) n c] w fun e w' => e = .returned (.tuple #[]) ∧ OwnI B w' (.slice (some ⟨g, 0, none⟩) n c) (l.mergeSort fun x y => decide (x ≤ y)) ∧ Turn w w' g := by
 have hn : n = l.length := by obtain ⟨a, c', hv, _⟩ := hv.shape; cases hv; rfl
 subst hn
 have hg : g < w.heap.size := (hv.lt g rfl).2
 refine (Tryz.slices_Sort_int g 0 c l w (ownI_holds hv) hg (by omega)).mono ?_
 rintro e w' ⟨rfl, q, os, rfl⟩
 refine ⟨rfl, ?_, turn_grow (putRow_turn _ _ _ _ _ _) os⟩
 have hs : (l.mergeSort fun x y => decide (x ≤ y)).length = l.length := List.length_mergeSort l
 have h1 := owns_putRow (q := q) (d := l.mergeSort fun x y => decide (x ≤ y)) hv hs l.length (by omega)
 rw [List.take_of_length_le (by omega)] at h1
 exact owns_grow h1 os
theorem deleteI_front {B : Nat} (g n c k : Nat) (l : List Int) (w : World) (hv : OwnI B w (.slice (some ⟨g, 0, none⟩) n c) l) (hk : k ≤ l.length) :
 Calls Tryz.prog 57 #[.slice (some ⟨g, 0, none⟩) n c, .int .i64 0, .int .i64 (k : Nat)] w fun e w' => ∃ m, e = .returned (.slice (some ⟨g, 0, none⟩) m c) ∧ OwnI B w' (.slice (some ⟨g, 0, none⟩) m c) (l.drop k) ∧ Turn w w' g := by
 obtain ⟨a, c', hs, h1, h2⟩ := hv.shape
 cases hs
 have hm : maxLen ≤ 9223372036854775807 := by decide
 refine (Tryz.slices_Delete_int g 0 c 0 k l w (ownI_holds hv) h1 (by omega) (Nat.zero_le _) hk).mono ?_
 rintro e w' ⟨rfl, q, rfl⟩
 refine ⟨_, rfl, ?_, putRow_turn _ _ _ _ _ _⟩
 have h3 := owns_putRow (q := q) (d := l.take 0 ++ l.drop k ++ List.replicate (k - 0) 0) hv (by simp; omega) (l.length - (k - 0)) (by simp)
 have e1 : (l.take 0 ++ l.drop k ++ List.replicate (k - 0) 0).take (l.length - (k - 0)) = l.drop k := by
  rw [List.take_zero, List.nil_append, Nat.sub_zero, List.take_append_of_le_length (by simp), List.take_of_length_le (by simp)]
 rw [e1] at h3
 exact h3
theorem cloneC_any {B : Nat} (v : Value) (L : List QCh) (D : List Value) (w : World) (hv : OwnC B w v L D) (hl : L.length ≤ 1000) :
 Calls Tryz.prog 86 #[v] w fun e w' => ∃ r, e = .returned r ∧ w'.ownsRow w.heap.size 76 3 r L.length (chCells L D) ∧ Below w.heap.size w w' := by
 obtain ⟨a, c, rfl, h1, h2⟩ := hv.shape
 have hone : ∀ d ∈ D, d.oneCell' = true := by
  intro d hd
  obtain ⟨i, hi, hd⟩ := List.mem_iff_getElem.1 hd
  have hd2 : D[i]? = some d := by rw [List.getElem?_eq_getElem hi, hd]
  obtain ⟨a, c, rfl, _⟩ := (hv.ds i d _ hd2 (List.getElem?_eq_getElem (by rw [← hv.len]; exact hi))).shape
  rfl
 cases a with
 | none =>
   have hl0 : L = [] := by
    rcases hv.row.2 with ⟨_, h0⟩ | ⟨g, cap, cur, hx, _⟩
    · exact List.length_eq_zero_iff.1 h0
    · cases hx
   subst hl0
   refine (AnyE.slices_Clone_nil Tryz.laysCloneC _ _ w).mono ?_
   rintro e w' ⟨rfl, rfl⟩
   exact ⟨_, rfl, World.ownsRow_nil _ _ _ _, Below.refl _ _⟩
 | some a =>
   obtain ⟨g, rfl⟩ : ∃ g, a = ⟨g, 0, none⟩ := by
    rcases hv.row.2 with ⟨hx, _⟩ | ⟨g, cap, cur, hx, _⟩
    · cases hx
    · cases hx; exact ⟨g, rfl⟩
   obtain ⟨i0, hi, hz0, hz1, hz2⟩ := info_parts infoCh
   refine (AnyE.slices_Clone Tryz.laysCloneC i0 _ 3 40 hi hz0 hz1 hz2 rfl (by decide) (fun w => by kernel_rfl) g 0 L.length c (chCells L D) w (chCells_length hv.len) (by omega) (by omega) (fun j u hu => ?_) (chCells_one hone)).mono ?_
   · have := World.ownsRow.cells hv.row (g := g) rfl j u hu
     rwa [Addr.add_lit] at this
   · rintro e w' ⟨r, rfl, hr, _, hb⟩
     exact ⟨r, rfl, hr, hb⟩
end Go.Proofs.YtnmekbbnglkmcaaGreat
namespace Go.Proofs.YtnmekbbnglkmcaaGreat
open Go.RowKit Go.Lib
theorem owns_setCells {B g n c s : Nat} {e : TypeId} : ∀ (vs : List Value) (o : Nat) (w : World) (xs : List Value), w.ownsRow B e s (.slice (some ⟨g, 0, none⟩) n c) n xs → o + vs.length ≤ xs.length →
 (w.setCells g o vs).ownsRow B e s (.slice (some ⟨g, 0, none⟩) n c) n (xs.take o ++ vs ++ xs.drop (o + vs.length)) ∧ Turn w (w.setCells g o vs) g
 | [], o, w, xs, h, ho => by
   refine ⟨?_, Turn.of_below (Below.refl _ _) g⟩
   show w.ownsRow B e s _ n _
   simpa using h
 | v :: vs, o, w, xs, h, ho => by
   have ho2 : o + 1 + vs.length ≤ (xs.set o v).length := by simp at ho ⊢; omega
   obtain ⟨h1, h2⟩ := owns_setCells vs (o + 1) (w.setCell ⟨g, o, none⟩ v) (xs.set o v) (h.stored o v).1 ho2
   have hlt : o < xs.length := by simp at ho; omega
   have hg : g < w.heap.size := (h.lt g rfl).2
   refine ⟨?_, ⟨fun B' hB hB2 => ((Below.refl _ _).setCell hB v).trans (h2.below B' hB (by simpa [World.setCell] using hB2)), fun k ob hk hne => h2.row k ob (one_other hk _ _ (fun e => hne e.symm)) hne⟩⟩
   have e1 : (xs.set o v).take (o + 1) ++ vs ++ (xs.set o v).drop (o + 1 + vs.length) = xs.take o ++ v :: vs ++ xs.drop (o + (v :: vs).length) := by
    have e2 : (xs.set o v).take (o + 1) = xs.take o ++ [v] := by
     apply List.ext_getElem?
     intro k
     by_cases hk : k < o
     · rw [List.getElem?_take, if_pos (by omega), List.getElem?_set_ne (by omega), List.getElem?_append_left (by simp; omega), List.getElem?_take, if_pos hk]
     · by_cases hk2 : k = o
       · subst hk2
         rw [List.getElem?_take, if_pos (by omega), List.getElem?_set_self hlt, List.getElem?_append_right (by simp; omega)]
         simp [Nat.min_eq_left (Nat.le_of_lt hlt)]
       · rw [List.getElem?_take, if_neg (by omega), List.getElem?_eq_none (by simp; omega)]
    rw [e2, List.drop_set_of_lt (by omega), List.length_cons, show o + 1 + vs.length = o + (vs.length + 1) by omega]
    simp
   rw [e1] at h1
   exact h1
theorem owns_shrink {w : World} {B g n c s m : Nat} {e : TypeId} {xs : List Value} (h : w.ownsRow B e s (.slice (some ⟨g, 0, none⟩) n c) n xs) (hm : m ≤ n) : w.ownsRow B e s (.slice (some ⟨g, 0, none⟩) m c) m (xs.take (m * s)) := by
 have hl := h.1
 have hms : m * s ≤ n * s := Nat.mul_le_mul_right s hm
 rcases h.2 with ⟨hv, _⟩ | ⟨g', cap, cur, hv, hb, hh, h1, h2, h3, h4⟩
 · cases hv
 · cases hv
   refine ⟨by simp; omega, .inr ⟨g, c, cur, rfl, hb, hh, by omega, h2, h3, ?_⟩⟩
   rw [← h4, List.take_take, Nat.min_eq_left hms]
theorem chCells_erase {L : List QCh} {D : List Value} (h : D.length = L.length) (i : Nat) (hi : i < L.length) : (chCells L D).take (i * 3) ++ (chCells L D).drop ((i + 1) * 3) = chCells (L.eraseIdx i) (D.eraseIdx i) := by
 induction L generalizing D i with
 | nil => simp at hi
 | cons c r ih =>
   cases D with
   | nil => simp at h
   | cons d s =>
     have e : chCells (c :: r) (d :: s) = .int .i64 c.head :: d :: .int .i64 c.room :: chCells r s := rfl
     cases i with
     | zero => rw [e]; rfl
     | succ i =>
       have h1 := ih (D := s) (by simpa using h) i (by simpa using hi)
       have e2 : chCells ((c :: r).eraseIdx (i + 1)) ((d :: s).eraseIdx (i + 1)) = .int .i64 c.head :: d :: .int .i64 c.room :: chCells (r.eraseIdx i) (s.eraseIdx i) := rfl
       rw [e, e2, show (i + 1) * 3 = i * 3 + 1 + 1 + 1 by omega, show (i + 1 + 1) * 3 = (i + 1) * 3 + 1 + 1 + 1 by omega, ← h1]
       rfl
def zeroCh : List Value := [.int .i64 0, .slice none 0 0, .int .i64 0]
theorem run_clear_chain (w : World) (ty : TypeId) (g o c : Nat) (hc : ∀ j, j < 3 → (w.cell? ⟨g, o + j, none⟩).isSome = true) (hf : ∀ j, j < 3 → w.frozen? ⟨g, o + j, none⟩ = false) :
 (Builtin.clear_ #[28] ty #[.slice (some ⟨g, o, none⟩) 1 c]).run Tryz.prog w = .ok (.tuple #[]) (w.setCells g o zeroCh) := by
 have hv : ∀ w, (zeroValue 76).run Tryz.prog w = .ok (.agg #[.int .i64 0, .slice none 0 0, .int .i64 0]) w := fun w => by kernel_rfl
 have hst := run_storeCells_cells (P := Tryz.prog) g o zeroCh 0 w (by simpa [zeroCh] using hc) (by simpa [zeroCh] using hf) (by intro v hv'; simp [zeroCh] at hv'; rcases hv' with rfl | rfl | rfl <;> rfl)
 simp only [Nat.add_zero] at hst
 have hz : (Builtin.zeroCells (Value.agg #[.int .i64 0, .slice none 0 0, .int .i64 0]).cells 1).toList = zeroCh := by kernel_rfl
 simp [Builtin.clear_, run_underlying Tryz.underlying28, hv, hz, hst]
set_option maxHeartbeats 4000000 in
set_option maxRecDepth 1000000 in
theorem deleteC_run (g n c i : Nat) (xs : List Value) (B : Nat) (w : World) (hx : w.ownsRow B 76 3 (.slice (some ⟨g, 0, none⟩) n c) n xs) (hi : i < n) (h1 : ∀ u ∈ xs, u.oneCell' = true) (hl : n ≤ 1000) :
 Calls Tryz.prog 78 #[.slice (some ⟨g, 0, none⟩) n c, .int .i64 (i : Nat), .int .i64 ((i + 1 : Nat) : Nat)] w fun e w' => e = .returned (.slice (some ⟨g, 0, none⟩) (n - 1) c) ∧ w'.ownsRow B 76 3 (.slice (some ⟨g, 0, none⟩) (n - 1) c) (n - 1) (xs.take (i * 3) ++ xs.drop ((i + 1) * 3)) ∧ Turn w w' g := by
 have hsh : n ≤ c ∧ c ≤ maxLen := by
  obtain ⟨a, c', hs, h2, h3⟩ := owns_slice hx
  cases hs
  exact ⟨h2, h3⟩
 obtain ⟨hnc, hcm⟩ := hsh
 unfold maxLen at hcm
 have hxl : xs.length = n * 3 := hx.1
 obtain ⟨i0, hi0, hz0, hz1, hz2⟩ := info_parts infoCh
 obtain ⟨j, hj⟩ : ∃ j, j = i + 1 := ⟨_, rfl⟩
 rw [← hj]
 obtain ⟨news, hnews⟩ : ∃ news, news = xs.drop (j * 3) := ⟨_, rfl⟩
 have hlen : news.length = (n - j) * 3 := by rw [hnews, List.length_drop, hxl]; omega
 have hat : ∀ k u, xs[k]? = some u → w.cell? ⟨g, k, none⟩ = some u := fun k u hu => by
  have hk := (List.getElem?_eq_some_iff.1 hu).1
  rw [World.ownsRow.cellAt hx k (by omega)]; exact hu
 obtain ⟨A, hA, hsrc⟩ : ∃ A : Addr, (if c = j then some (⟨g, 0, none⟩ : Addr) else some ⟨g, j * 3, none⟩) = some A ∧ Hid (∀ t u, news[t]? = some u → w.drew.cell? (A.add t) = some u) := by
  by_cases h : c = j
  · refine ⟨⟨g, 0, none⟩, by simp [h], fun t u hu => ?_⟩
    have h0 : news.length = 0 := by rw [hlen]; omega
    rw [List.length_eq_zero_iff.1 h0] at hu
    simp at hu
  · refine ⟨⟨g, j * 3, none⟩, by simp [h], fun t u hu => ?_⟩
    rw [hnews, List.getElem?_drop] at hu
    rw [Addr.add_lit]
    exact hat _ _ hu
 have s2 : Hid (∀ u ∈ news, u.oneCell' = true) := by
  intro u hu
  rw [hnews] at hu
  exact h1 u (List.mem_of_mem_drop hu)
 have s3 : Hid (∀ t, t < news.length → (w.drew.cell? ⟨g, 0 + i * 3 + t, none⟩).isSome = true ∧ w.drew.frozen? ⟨g, 0 + i * 3 + t, none⟩ = false) := by
  intro t ht
  rw [hlen] at ht
  refine ⟨?_, ?_⟩
  · show (w.cell? _).isSome = true
    rw [World.ownsRow.cellAt hx _ (by omega), List.getElem?_eq_getElem (by omega)]
    rfl
  · exact World.ownsRow.frozenAt hx _
 obtain ⟨W1, hW1⟩ : ∃ W1, W1 = w.drew.setCells g (0 + i * 3) news := ⟨_, rfl⟩
 have hx' : w.drew.ownsRow B 76 3 (.slice (some ⟨g, 0, none⟩) n c) n xs := hx
 obtain ⟨hx1, ht1⟩ := owns_setCells news (0 + i * 3) w.drew xs hx' (by omega)
 rw [← hW1] at hx1 ht1
 obtain ⟨m, hm⟩ : ∃ m, m = i + (n - j) := ⟨_, rfl⟩
 have hmn : m + 1 = n := by omega
 have hcl : ∀ ty cc, (Builtin.clear_ #[28] ty #[.slice (some ⟨g, m * 3, none⟩) 1 cc]).run Tryz.prog W1 = .ok (.tuple #[]) (W1.setCells g (m * 3) zeroCh) := fun ty cc => run_clear_chain W1 ty g (m * 3) cc
  (fun t ht => by rw [World.ownsRow.cellAt hx1 _ (by omega), List.getElem?_eq_getElem (by simp; omega)]; rfl) (fun t _ => World.ownsRow.frozenAt hx1 _)
 obtain ⟨W2, hW2⟩ : ∃ W2, W2 = W1.setCells g (m * 3) zeroCh := ⟨_, rfl⟩
 have hz3 : zeroCh.length = 3 := rfl
 obtain ⟨hx2, ht2⟩ := owns_setCells zeroCh (m * 3) W1 _ hx1 (by simp; omega)
 rw [← hW2] at hx2 ht2
 have hx3 := owns_shrink hx2 (m := n - 1) (by omega)
 have hfin : (((xs.take (0 + i * 3) ++ news ++ xs.drop (0 + i * 3 + news.length)).take (m * 3) ++ zeroCh ++ (xs.take (0 + i * 3) ++ news ++ xs.drop (0 + i * 3 + news.length)).drop (m * 3 + zeroCh.length)).take ((n - 1) * 3)) = xs.take (i * 3) ++ xs.drop ((i + 1) * 3) := by
  have e1 : (xs.take (0 + i * 3) ++ news).length = m * 3 := by rw [List.length_append, List.length_take, hlen]; omega
  rw [List.take_append_of_le_length (Nat.le_of_eq e1.symm), List.take_of_length_le (Nat.le_of_eq e1), List.append_assoc, List.take_append_of_le_length (by omega), List.take_of_length_le (by omega), Nat.zero_add, hnews, hj]
 rw [hfin] at hx3
 have HT := Lib.hid (show Turn w W2 g from ⟨fun B' hB hB2 => ((Below.refl _ _).drew.trans (ht1.below B' hB hB2)).trans (ht2.below B' hB (Nat.le_trans hB2 (ht1.below B' hB hB2).size)), fun k o hk hne => ht2.row k o (ht1.row k o hk hne) hne⟩)
 have HX3 := Lib.hid hx3
 have HW1 := Lib.hid hW1
 have HW2 := Lib.hid hW2
 have HL := Lib.hid hlen
 have hcl2 : ∀ ty cc, (Builtin.clear_ #[28] ty #[.slice (some ⟨g, (i + (n - j)) * 3, none⟩) (n - (i + (n - j))) cc]).run Tryz.prog W1 = .ok (.tuple #[]) W2 := fun ty cc => by rw [← hm, show n - m = 1 by omega, hcl, ← hW2]
 have hij : ((i : Nat) : Int) ≠ (j : Nat) := by omega
 have hic : i ≤ c := by omega
 have hjc : j ≤ c := by omega
 have hjn : j ≤ n := by omega
 have hlej : i ≤ j := by omega
 have HJ := Lib.hid hj
 have HM := Lib.hid hm
 clear hx hx' hx1 hx2 hx3 ht1 ht2 hat hnews hW1 hW2 hcl hfin h1 hlen hxl hj hm hz3 hij
 have hne : i ≠ j := by have := HJ.out; omega
 have hb0 : (((i : Nat) : Int) == ((j : Nat) : Int)) = false := by rw [beq_eq_false_iff_ne]; omega
 have hb1 : (i == j) = false := by rw [beq_eq_false_iff_ne]; exact hne
 go_enter Tryz.func78, Tryz.ntmps78
 go_wp2_with fail
 go_region_law (refine step_append_room rfl (.tmp 22) (.tmp 25) 28 rfl 76 i0 3 Tryz.underlying28 hi0 hz1 g 0 i c (by simp [Act.eval, Act.put]) A (n - j) (c - j) news (by simp [Act.eval, Act.put]) HL.out hsrc.out s2.out (by omega) s3.out ?_; rw [← HW1.out])
 go_wp2
 go_ret
 exact ⟨by rw [show n - 1 = i + (n - j) by have := HJ.out; omega]; rfl, by rw [HJ.out]; exact HX3.out, HT.out⟩
theorem deleteC_any {B : Nat} (g n c i : Nat) (L : List QCh) (D : List Value) (w : World) (hv : OwnC B w (.slice (some ⟨g, 0, none⟩) n c) L D) (hi : i < L.length) (hl : L.length ≤ 1000) :
 Calls Tryz.prog 78 #[.slice (some ⟨g, 0, none⟩) n c, .int .i64 (i : Nat), .int .i64 ((i + 1 : Nat) : Nat)] w fun e w' => ∃ m, e = .returned (.slice (some ⟨g, 0, none⟩) m c) ∧ w'.ownsRow B 76 3 (.slice (some ⟨g, 0, none⟩) m c) (L.eraseIdx i).length (chCells (L.eraseIdx i) (D.eraseIdx i)) ∧ Turn w w' g := by
 obtain ⟨a, c', hs, h2, h3⟩ := hv.shape
 cases hs
 have hone : ∀ d ∈ D, d.oneCell' = true := by
  intro d hd
  obtain ⟨i, hi, hd⟩ := List.mem_iff_getElem.1 hd
  have hd2 : D[i]? = some d := by rw [List.getElem?_eq_getElem hi, hd]
  obtain ⟨a, c, rfl, _⟩ := (hv.ds i d _ hd2 (List.getElem?_eq_getElem (by rw [← hv.len]; exact hi))).shape
  rfl
 refine (deleteC_run g L.length c i (chCells L D) B w hv.row hi (chCells_one hone) hl).mono ?_
 rintro e w' ⟨rfl, hr, ht⟩
 rw [chCells_erase hv.len i hi] at hr
 refine ⟨_, rfl, ?_, ht⟩
 rw [List.length_eraseIdx_of_lt hi]
 exact hr
def usedW (a n : Nat) (x : QCh × (Option Addr × Nat × Nat)) : Bool := decide (((a : Nat) : Int) = IntKind.u64.wrap x.1.head) && decide (((n : Nat) : Int) ≤ IntKind.u64.wrap x.1.room)
def encCh (x : QCh × (Option Addr × Nat × Nat)) : List Value := [.int .i64 x.1.head, .slice x.2.1 x.2.2.1 x.2.2.2, .int .i64 x.1.room]
set_option maxHeartbeats 1000000 in
theorem find1_any (a n gb : Nat) (ha : a < 4294967296) (hn : n < 4294967296) (w : World) (hb : w.heap[gb]? = some (.cells #[.int .u32 (a : Nat), .int .u32 (n : Nat)] 53 (0, 0))) :
 PredBelow Tryz.prog 77 #[.pointer (some ⟨gb, 0, none⟩)] (fun x => .agg (encCh x).toArray) (usedW a n) w := fun W x hW => by
 obtain ⟨x, p, q, r⟩ := x
 obtain ⟨hd, ds, rm⟩ := x
 have hbW := row_keep hb hW
 have hbA := row_new hbW (.cells #[.int .i64 hd, .slice p q r, .int .i64 rm] 76)
 obtain ⟨c0, z0⟩ := at_cell hbA 0 _ rfl
 obtain ⟨c1, z1⟩ := at_cell hbA 1 _ rfl
 have HW := Lib.hid (hW.alloc hW.size (.cells #[.int .i64 hd, .slice p q r, .int .i64 rm] 76))
 obtain ⟨y, hy⟩ : ∃ y, IntKind.u64.wrap hd = y := ⟨_, rfl⟩
 obtain ⟨z, hz⟩ : ∃ y, IntKind.u64.wrap rm = y := ⟨_, rfl⟩
 have hwa : IntKind.u64.wrap ((a : Nat) : Int) = (a : Nat) := IntWalk.u64_in _ (by omega)
 have hwn : IntKind.u64.wrap ((n : Nat) : Int) = (n : Nat) := IntWalk.u64_in _ (by omega)
 show Calls _ _ #[.agg #[.int .i64 hd, .slice p q r, .int .i64 rm], .pointer (some ⟨gb, 0, none⟩)] W _
 have hu : usedW a n (⟨hd, ds, rm⟩, p, q, r) = (decide (((a : Nat) : Int) = y) && decide (((n : Nat) : Int) ≤ z)) := by simp [usedW, hy, hz]
 rw [hu]
 have HB := Lib.hid hb
 clear hb hbW hbA z0 z1 hW hu ha hn
 by_cases h1 : ((a : Nat) : Int) = y
 · have e1 : (((a : Nat) : Int) == y) = true := by rw [beq_iff_eq]; exact h1
   by_cases h2 : ((n : Nat) : Int) ≤ z
   · have e2 : decide (((n : Nat) : Int) ≤ z) = true := decide_eq_true h2
     rw [decide_eq_true h1, e2]
     have H1 := Lib.hid h1
     have H2 := Lib.hid h2
     clear h1 h2
     go_enter Tryz.func77, Tryz.ntmps77
     go_wp2
     go_ret
     exact ⟨rfl, HW.out⟩
   · have e2 : decide (((n : Nat) : Int) ≤ z) = false := decide_eq_false h2
     rw [decide_eq_true h1, e2]
     have H1 := Lib.hid h1
     clear h1 h2
     go_enter Tryz.func77, Tryz.ntmps77
     go_wp2
     go_ret
     exact ⟨rfl, HW.out⟩
 · have e1 : (((a : Nat) : Int) == y) = false := by rw [beq_eq_false_iff_ne]; exact h1
   rw [decide_eq_false h1]
   clear h1
   go_enter Tryz.func77, Tryz.ntmps77
   go_wp2
   go_ret
   exact ⟨rfl, HW.out⟩
instance : Inhabited QCh := ⟨⟨0, [], 0⟩⟩
def sliceOf : Value → Option Addr × Nat × Nat
 | .slice a n c => (a, n, c)
 | _ => (none, 0, 0)
theorem findC_any {B : Nat} (C : Value) (L : List QCh) (D : List Value) (a n gb : Nat) (ha : a < 4294967296) (hn : n < 4294967296) (w : World) (hv : OwnC B w C L D) (hl : L.length ≤ 1000) (hb : w.heap[gb]? = some (.cells #[.int .u32 (a : Nat), .int .u32 (n : Nat)] 53 (0, 0)))
 (hg : ∀ c ∈ L, 0 ≤ c.head ∧ c.head ≤ 1000 ∧ 0 ≤ c.room ∧ c.room ≤ 2147483647) :
 Calls Tryz.prog 76 #[C, .func (.func 77) #[] #[.pointer (some ⟨gb, 0, none⟩)]] w fun e w' => ∃ z, e = .returned (.int .i64 z) ∧ ((z = -1 ∧ ∀ c ∈ L, isUsed a n c = false) ∨ ∃ i c, z = (i : Nat) ∧ L[i]? = some c ∧ isUsed a n c = true) ∧ Below w.heap.size w w' := by
 obtain ⟨ad, c, rfl, h1, h2⟩ := hv.shape
 by_cases h0 : 0 < L.length
 · obtain ⟨g, cur, rfl, _, hlt, hh, _, _⟩ := hv.lie h0
   obtain ⟨Z, hZ⟩ : ∃ Z, Z = L.zip (D.map sliceOf) := ⟨_, rfl⟩
   have hZl : Z.length = L.length := by rw [hZ]; simp [hv.len]
   have hat : ∀ (j : Nat) (hj : j < Z.length), ∃ x d, L[j]? = some x ∧ D[j]? = some d ∧ Z[j] = (x, sliceOf d) ∧ (∃ p q r, d = .slice p q r) ∧ w.cell? ⟨g, j * 3, none⟩ = some (.int .i64 x.head) ∧ w.cell? ⟨g, j * 3 + 1, none⟩ = some d ∧ w.cell? ⟨g, j * 3 + 2, none⟩ = some (.int .i64 x.room) := by
    intro j hj
    obtain ⟨x, d, e1, e2, e3, e4, e5, e6⟩ := hv.at j (by omega)
    obtain ⟨p, r, e7, _⟩ := e6.shape
    refine ⟨x, d, e1, e2, ?_, ⟨p, _, r, e7⟩, e3, e4, e5⟩
    have e8 : Z[j]? = some (x, sliceOf d) := by rw [hZ, List.getElem?_zip_eq_some]; exact ⟨e1, by rw [List.getElem?_map, e2]; rfl⟩
    rw [List.getElem?_eq_getElem hj] at e8
    exact Option.some.inj e8
   have hget : ∀ (j : Nat) (hj : j < Z.length), Z[j]! = Z[j] := fun j hj => getElem!_pos Z j hj
   have h := AnyQ.slices_IndexFunc (α := QCh × (Option Addr × Nat × Nat)) Tryz.laysFindC 3 (fun w => by kernel_rfl) (fun w => by kernel_rfl) encCh (fun _ => rfl) (usedW a n) 77 #[.pointer (some ⟨gb, 0, none⟩)] (enters_of Tryz.func77 (by kernel_rfl) rfl) g 0 L.length c Z w
    (find1_any a n gb ha hn w hb) (by omega) (by omega) hlt (fun j hj i v hi => by
     obtain ⟨x, d, e1, e2, e3, ⟨p, q, r, rfl⟩, e4, e5, e6⟩ := hat j hj
     rw [hget j hj, e3] at hi
     rw [Nat.zero_add]
     match i, hi with
     | 0, hi => simp [encCh] at hi; rw [← hi]; exact e4
     | 1, hi => simp [encCh, sliceOf] at hi; rw [← hi]; exact e5
     | 2, hi => simp [encCh] at hi; rw [← hi]; exact e6
     | i + 3, hi => simp [encCh] at hi)
   have hus : ∀ (j : Nat) (hj : j < Z.length) (x : QCh), L[j]? = some x → usedW a n Z[j] = isUsed a n x := by
    intro j hj x hx
    obtain ⟨x', d, e1, e2, e3, _⟩ := hat j hj
    rw [← Option.some.inj (e1.symm.trans hx)]
    have hx2 := hg x' (List.mem_of_getElem? e1)
    have w1 : IntKind.u64.wrap x'.head = x'.head := IntWalk.u64_in _ (by omega)
    have w2 : IntKind.u64.wrap x'.room = x'.room := IntWalk.u64_in _ (by omega)
    rw [e3]
    simp only [usedW, isUsed, w1, w2, ← Bool.decide_and]
   refine h.mono ?_
   rintro e w' ⟨rfl, hbw⟩
   refine ⟨_, rfl, ?_, hbw⟩
   rcases hf : Z.findIdx? (usedW a n) with _ | i
   · refine .inl ⟨Lib.idxBy_miss _ Z L.length _ (fun j hj => ?_), fun x hx => ?_⟩
     · rw [hget j (by omega)]
       exact Bool.eq_false_iff.2 (fun e => by
        rw [List.findIdx?_eq_none_iff] at hf
        have := hf _ (List.getElem_mem (show j < Z.length by omega))
        rw [this] at e
        cases e)
     · obtain ⟨j, hj, hx⟩ := List.mem_iff_getElem.1 hx
       rw [List.findIdx?_eq_none_iff] at hf
       have := hf _ (List.getElem_mem (show j < Z.length by omega))
       rw [hus j (by omega) x (by rw [List.getElem?_eq_getElem hj, hx])] at this
       exact this
   · rw [List.findIdx?_eq_some_iff_getElem] at hf
     obtain ⟨hi, h3, h4⟩ := hf
     obtain ⟨x, d, e1, _⟩ := hat i hi
     refine .inr ⟨i, x, Lib.idxBy_hit _ Z L.length i _ (by omega) (by omega) (by rw [hget i hi]; exact h3) (fun j hj => ?_), e1, by rw [← hus i hi x e1]; exact h3⟩
     rw [hget j (by omega)]
     exact Bool.eq_false_iff.2 (h4 j hj)
 · have hl0 : L = [] := List.length_eq_zero_iff.1 (by omega)
   subst hl0
   go_enter Tryz.func76, Tryz.ntmps76
   go_wp2
   refine wp_loop_rounds 1 ?_
   rw [rounds_succ]
   go_wp2
   go_ret
   exact ⟨_, rfl, .inl ⟨rfl, fun c hc => by cases hc⟩, Below.refl _ _⟩
end Go.Proofs.YtnmekbbnglkmcaaGreat
namespace Go.Proofs.YtnmekbbnglkmcaaGreat
def chkB (S : List (List UInt8)) (C : List (Int × List UInt8)) : Bool :=
 decide (S.length ≤ 256) && decide (C.length ≤ 512) && S.all (fun l => decide (l.length = 256)) && C.all (fun x => decide (0 ≤ x.1 ∧ x.1 < (S.length : Int) ∧ x.2.length = 256))
def dFault (S : List (List UInt8)) (C : List (Int × List UInt8)) (a : Int) : Int := if chkB S C = true then (if 0 ≤ a ∧ a < (S.length : Int) then 0 else 50) else 3
def wFault (S : List (List UInt8)) (C : List (Int × List UInt8)) (a : Int) (n : Nat) : Int := if dFault S C a = 0 then (if n = 256 then (if C.length = 512 then 4 else 0) else 2) else dFault S C a
def tFault (S : List (List UInt8)) (C : List (Int × List UInt8)) (a p : Int) : Int := if dFault S C a = 0 then (if 0 ≤ p ∧ p < 256 then 0 else 2) else dFault S C a
def after (S : List (List UInt8)) (C : List (Int × List UInt8)) (T : Nat → Bool) : Nat → List (List UInt8)
 | 0 => S
 | k + 1 => if T k = true then (after S C T k).set (C.getD k (0, [])).1.toNat (C.getD k (0, [])).2 else after S C T k
def settledOf (S : List (List UInt8)) (C : List (Int × List UInt8)) (T : Nat → Bool) : List (List UInt8) := after S C T C.length
def every : Nat → Bool := fun _ => true
def keptT (l : List Bool) : Nat → Bool := fun k => l.getD k false
def readOf (S : List (List UInt8)) (C : List (Int × List UInt8)) (a : Int) : List UInt8 := if dFault S C a = 0 then (settledOf S C every).getD a.toNat [] else []
def flushOf (S : List (List UInt8)) (C : List (Int × List UInt8)) (T : Nat → Bool) : List (List UInt8) := if chkB S C = true then settledOf S C T else S
def cacheOf (S : List (List UInt8)) (C : List (Int × List UInt8)) : List (Int × List UInt8) := if chkB S C = true then [] else C
def formOf (S : List (List UInt8)) (C : List (Int × List UInt8)) : Int := if chkB S C = true then 0 else 3
def writeOf (S : List (List UInt8)) (C : List (Int × List UInt8)) (a : Int) (l : List UInt8) : List (Int × List UInt8) := if wFault S C a l.length = 0 then C ++ [(a, l)] else C
def tamperOf (S : List (List UInt8)) (C : List (Int × List UInt8)) (a p : Int) (y : UInt8) : List (List UInt8) := if tFault S C a p = 0 then S.set a.toNat ((S.getD a.toNat []).set p.toNat (((S.getD a.toNat []).getD p.toNat 0) ^^^ y)) else S
def newOf (n : Int) : List (List UInt8) := if 0 ≤ n ∧ n ≤ 256 then List.replicate n.toNat (List.replicate 256 0) else []
def newFault (n : Int) : Int := if 0 ≤ n ∧ n ≤ 256 then 0 else 2
end Go.Proofs.YtnmekbbnglkmcaaGreat
namespace Go.Proofs.YtnmekbbnglkmcaaGreat
open Go.RowKit Go.Lib
def Held (w : World) (v : Value) (n : Nat) (cs : List Value) : Prop :=
 (v = .slice none 0 0 ∧ n = 0 ∧ cs = []) ∨ ∃ ad c, v = .slice (some ad) n c ∧ n ≤ c ∧ c ≤ maxLen ∧ ∀ j u, cs[j]? = some u → w.cell? (ad.add j) = some u
theorem Held.below {w w' : World} {v : Value} {n : Nat} {cs : List Value} (h : Held w v n cs) (hb : Below w.heap.size w w') : Held w' v n cs := by
 rcases h with h | ⟨ad, c, h1, h2, h3, h4⟩
 · exact .inl h
 · exact .inr ⟨ad, c, h1, h2, h3, fun j u hu => by
    have h5 := h4 j u hu
    rw [hb.cell (World.block_lt_of_cell? w _ h5)]; exact h5⟩
theorem Held.shape {w : World} {v : Value} {n : Nat} {cs : List Value} (h : Held w v n cs) : ∃ a c, v = .slice a n c ∧ n ≤ maxLen := by
 rcases h with ⟨rfl, rfl, _⟩ | ⟨ad, c, rfl, h2, h3, _⟩
 · exact ⟨none, 0, rfl, Nat.zero_le _⟩
 · exact ⟨some ad, c, rfl, Nat.le_trans h2 h3⟩
theorem Held.lit {w : World} {a : Option Addr} {n c : Nat} {cs : List Value} (h : Held w (.slice a n c) n cs) (h0 : 0 < cs.length) :
 ∃ b off, a = some ⟨b, off, none⟩ ∧ b < w.heap.size ∧ ∀ j u, cs[j]? = some u → w.cell? ⟨b, off + j, none⟩ = some u := by
 rcases h with ⟨_, _, rfl⟩ | ⟨ad, c', h1, _, _, h4⟩
 · simp at h0
 · cases h1
   have h5 := h4 0 _ (List.getElem?_eq_getElem h0)
   have hlt := World.block_lt_of_cell? w _ h5
   rw [Addr.add_zero'] at h5 hlt
   obtain ⟨b, off, spot⟩ := ad
   obtain rfl : spot = none := by
    cases spot with
    | none => rfl
    | some x =>
      exfalso
      unfold World.cell? at h5
      split at h5
      · simp at h5
      · cases h5
   refine ⟨b, off, rfl, hlt, fun j u hu => ?_⟩
   have h6 := h4 j u hu
   rwa [Addr.add_lit] at h6
theorem held_of_owns {w : World} {base : Nat} {t : TypeId} {size : Nat} {v : Value} {n : Nat} {cs : List Value} (h : w.ownsRow base t size v n cs) : Held w v n cs := by
 rcases h.2 with ⟨rfl, h0⟩ | ⟨g, cap, cur, rfl, _, hh, hnc, hcm, _, _⟩
 · refine .inl ⟨rfl, h0, ?_⟩
   have := h.1
   rw [h0] at this
   exact List.length_eq_zero_iff.1 (by omega)
 · exact .inr ⟨⟨g, 0, none⟩, cap, rfl, hnc, hcm, fun j u hu => World.ownsRow.cells h rfl j u hu⟩
def Sects (w : World) (v : Value) (S : List (List UInt8)) : Prop :=
 ∃ Vs : List Value, Vs.length = S.length ∧ Held w v S.length Vs ∧ ∀ (i : Nat) (V : Value) (l : List UInt8), Vs[i]? = some V → S[i]? = some l → IsArg w V l
theorem Sects.below {w w' : World} {v : Value} {S : List (List UInt8)} (h : Sects w v S) (hb : Below w.heap.size w w') : Sects w' v S := by
 obtain ⟨Vs, h1, h2, h3⟩ := h
 exact ⟨Vs, h1, h2.below hb, fun i V l hV hl => (h3 i V l hV hl).below hb⟩
theorem Sects.shape {w : World} {v : Value} {S : List (List UInt8)} (h : Sects w v S) : ∃ a c, v = .slice a S.length c ∧ S.length ≤ maxLen := by
 obtain ⟨Vs, _, h2, _⟩ := h
 exact h2.shape
theorem Sects.at {w : World} {a : Option Addr} {n c : Nat} {S : List (List UInt8)} (h : Sects w (.slice a n c) S) (k : Nat) (hk : k < S.length) :
 ∃ b off V, a = some ⟨b, off, none⟩ ∧ w.cell? ⟨b, off + k, none⟩ = some V ∧ IsArg w V (S.getD k []) := by
 obtain ⟨Vs, h1, h2, h3⟩ := h
 obtain ⟨a', c', hs, _⟩ := h2.shape
 cases hs
 obtain ⟨b, off, h4, _, h5⟩ := h2.lit (by omega)
 have hV : Vs[k]? = some (Vs[k]'(by omega)) := List.getElem?_eq_getElem _
 refine ⟨b, off, _, h4, h5 k _ hV, ?_⟩
 have hl : S[k]? = some (S.getD k []) := by simp [List.getD_eq_getElem?_getD, hk]
 exact h3 k _ _ hV hl
theorem rows_nil (w : World) : Sects w (.slice none 0 0) [] := ⟨[], rfl, .inl ⟨rfl, rfl, rfl⟩, fun i V l h => by simp at h⟩
def wcells (X : List (Int × Value)) : List Value := X.flatMap fun x => [.int .i64 x.1, x.2]
theorem wcells_length (X : List (Int × Value)) : (wcells X).length = X.length * 2 := by
 induction X with
 | nil => rfl
 | cons x r ih => simp only [wcells, List.flatMap_cons, List.length_append, List.length_cons, List.length_nil] at ih ⊢; omega
theorem wcells_at (X : List (Int × Value)) (k : Nat) (x : Int × Value) (h : X[k]? = some x) : (wcells X)[k * 2]? = some (.int .i64 x.1) ∧ (wcells X)[k * 2 + 1]? = some x.2 := by
 induction X generalizing k with
 | nil => simp at h
 | cons y r ih =>
   cases k with
   | zero => simp at h; subst h; exact ⟨rfl, rfl⟩
   | succ k =>
     have h1 := ih k (by simpa using h)
     have h2 : wcells (y :: r) = .int .i64 y.1 :: y.2 :: wcells r := rfl
     rw [h2, show (k + 1) * 2 = k * 2 + 1 + 1 by omega]
     exact h1
def Writes (w : World) (v : Value) (C : List (Int × List UInt8)) : Prop :=
 ∃ X : List (Int × Value), X.length = C.length ∧ Held w v C.length (wcells X) ∧ ∀ (i : Nat) (x : Int × Value) (y : Int × List UInt8), X[i]? = some x → C[i]? = some y → x.1 = y.1 ∧ IsArg w x.2 y.2
theorem Writes.below {w w' : World} {v : Value} {C : List (Int × List UInt8)} (h : Writes w v C) (hb : Below w.heap.size w w') : Writes w' v C := by
 obtain ⟨X, h1, h2, h3⟩ := h
 exact ⟨X, h1, h2.below hb, fun i x y hx hy => ⟨(h3 i x y hx hy).1, (h3 i x y hx hy).2.below hb⟩⟩
theorem Writes.shape {w : World} {v : Value} {C : List (Int × List UInt8)} (h : Writes w v C) : ∃ a c, v = .slice a C.length c ∧ C.length ≤ maxLen := by
 obtain ⟨X, _, h2, _⟩ := h
 exact h2.shape
theorem Writes.at {w : World} {a : Option Addr} {n c : Nat} {C : List (Int × List UInt8)} (h : Writes w (.slice a n c) C) (k : Nat) (hk : k < C.length) :
 ∃ b off V, a = some ⟨b, off, none⟩ ∧ w.cell? ⟨b, off + k * 2, none⟩ = some (.int .i64 (C.getD k (0, [])).1) ∧ w.cell? ⟨b, off + k * 2 + 1, none⟩ = some V ∧ IsArg w V (C.getD k (0, [])).2 := by
 obtain ⟨X, h1, h2, h3⟩ := h
 obtain ⟨a', c', hs, _⟩ := h2.shape
 cases hs
 obtain ⟨b, off, h4, _, h5⟩ := h2.lit (by rw [wcells_length]; omega)
 have hX : X[k]? = some (X[k]'(by omega)) := List.getElem?_eq_getElem _
 obtain ⟨e1, e2⟩ := wcells_at X k _ hX
 have hy : C[k]? = some (C.getD k (0, [])) := by simp [List.getD_eq_getElem?_getD, hk]
 obtain ⟨e3, e4⟩ := h3 k _ _ hX hy
 refine ⟨b, off, _, h4, ?_, h5 _ _ e2, e4⟩
 rw [← e3]
 exact h5 _ _ e1
theorem writes_nil (w : World) : Writes w (.slice none 0 0) [] := ⟨[], rfl, .inl ⟨rfl, rfl, rfl⟩, fun i V l h => by simp at h⟩
def IsDisk (w : World) (s c : Value) (S : List (List UInt8)) (C : List (Int × List UInt8)) : Prop := Sects w s S ∧ Writes w c C
theorem IsDisk.below {w w' : World} {s c : Value} {S : List (List UInt8)} {C : List (Int × List UInt8)} (h : IsDisk w s c S C) (hb : Below w.heap.size w w') : IsDisk w' s c S C := ⟨h.1.below hb, h.2.below hb⟩
def FewD (S : List (List UInt8)) (C : List (Int × List UInt8)) : Prop := S.length ≤ 100000 ∧ C.length ≤ 100000 ∧ (∀ l ∈ S, l.length ≤ 100000) ∧ ∀ x ∈ C, x.2.length ≤ 100000
def IsFlags (w : World) (v : Value) (l : List Bool) : Prop := Held w v l.length (l.map .bool)
theorem IsFlags.below {w w' : World} {v : Value} {l : List Bool} (h : IsFlags w v l) (hb : Below w.heap.size w w') : IsFlags w' v l := Held.below h hb
theorem IsFlags.at {w : World} {a : Option Addr} {n c : Nat} {l : List Bool} (h : IsFlags w (.slice a n c) l) (k : Nat) (hk : k < l.length) :
 ∃ b off, a = some ⟨b, off, none⟩ ∧ w.cell? ⟨b, off + k, none⟩ = some (.bool (l.getD k false)) := by
 have h0 := h
 unfold IsFlags at h0
 obtain ⟨a', c', hs, _⟩ := h0.shape
 cases hs
 obtain ⟨b, off, h4, _, h5⟩ := h0.lit (by simp; omega)
 exact ⟨b, off, h4, h5 k _ (by simp [List.getD_eq_getElem?_getD, hk])⟩
theorem flags_nil (w : World) : IsFlags w (.slice none 0 0) [] := .inl ⟨rfl, rfl, rfl⟩
def IsInts (w : World) (v : Value) (l : List Int) : Prop := Held w v l.length (l.map (Value.int .i64)) ∧ ∀ z ∈ l, -9223372036854775808 ≤ z ∧ z ≤ 9223372036854775807
theorem IsInts.below {w w' : World} {v : Value} {l : List Int} (h : IsInts w v l) (hb : Below w.heap.size w w') : IsInts w' v l := ⟨Held.below h.1 hb, h.2⟩
theorem IsInts.at {w : World} {a : Option Addr} {n c : Nat} {l : List Int} (h : IsInts w (.slice a n c) l) (k : Nat) (hk : k < l.length) :
 ∃ b off, a = some ⟨b, off, none⟩ ∧ w.cell? ⟨b, off + k, none⟩ = some (.int .i64 (l.getD k 0)) := by
 have h0 := h.1
 obtain ⟨a', c', hs, _⟩ := h0.shape
 cases hs
 obtain ⟨b, off, h4, _, h5⟩ := h0.lit (by simp; omega)
 exact ⟨b, off, h4, h5 k _ (by simp [List.getD_eq_getElem?_getD, hk])⟩
end Go.Proofs.YtnmekbbnglkmcaaGreat
namespace Go.Proofs.YtnmekbbnglkmcaaGreat
open Go.RowKit Go.Lib
theorem wpList_append_held {P : Program} (w : World) {ops : Array Oper} {rest : List Oper} {o : Oper} {a : Act} {Q : Exit → Act → World → Prop} (hgd : o.guard = none) (s x : Operand) (t : TypeId)
 (ho : o.op = .call { callee := .builtin .append, args := #[s, x], argTypes := #[t, t] })
 (base : Nat) (e : TypeId) (i : TypeInfo) (z : Value) (size bytes : Nat) (ht : P.underlying t = some (.slice e)) (hi : P.info? e = some i) (hz : i.zero = some z)
 (hsize : i.size = size) (hby : i.bytes = bytes) (hzs : z.cells.size = size) (hsz : 0 < size)
 (v : Value) (n : Nat) (xs : List Value) (hs : a.eval s = v) (hown : w.ownsRow base e size v n xs)
 (V : Value) (m : Nat) (news : List Value) (hx : a.eval x = V) (hV : Held w V m news) (hl : news.length = m * size) (h1 : ∀ u ∈ news, u.oneCell' = true)
 (h63 : n + m ≤ maxLen) (hbytes : (n + m) * bytes ≤ 140737488355328) (hbase : base ≤ w.heap.size)
 (h : ∀ v' w', w'.ownsRow base e size v' (n + m) (xs ++ news) → w.grownBy w' v.ownBlock → wpList P ops Q rest (a.put o.dst v') w') : wpList P ops Q (o :: rest) a w := by
 rcases hV with ⟨rfl, rfl, rfl⟩ | ⟨ad, c, rfl, _, _, hnews⟩
 · refine wpList_append_own_none hgd s x t ho base e i size ht hi v n xs hs hown hx ?_
   exact h v w (by simpa using hown) (World.grownBy.refl w _)
 · exact wpList_append_own w hgd s x t ho base e i z size bytes ht hi hz hsize hby hzs hsz v n xs hs hown ad m c news hx hl hnews h1 h63 hbytes hbase (fun v' w' h2 h3 _ => h v' w' h2 h3)
end Go.Proofs.YtnmekbbnglkmcaaGreat
namespace Go.Proofs.YtnmekbbnglkmcaaGreat
open Go.RowKit Go.Lib
theorem isCount_in (z : Int) (h0 : 0 ≤ z) (h1 : z ≤ 2147483647) (w : World) : Calls Tryz.prog 45 #[.int .i64 z] w fun e w' => e = .returned (.bool true) ∧ w' = w := by
 go_enter Tryz.func45, Tryz.ntmps45
 go_wp2
 go_ret
 exact ⟨rfl, rfl⟩
set_option maxHeartbeats 1000000 in
theorem upTo_any (N : Nat) (hN : N ≤ 1000) (w : World) : Calls Tryz.prog 23 #[.int .i64 (N : Nat)] w fun e w' => ∃ r, e = .returned r ∧ OwnI w.heap.size w' r (upN N) ∧ Below w.heap.size w w' := by
 obtain ⟨i0, hi, hz0, hz1, hz2⟩ := info_parts infoI
 go_enter Tryz.func23, Tryz.ntmps23
 go_wp2_with (refine wpList_make_full _ rfl _ _ 22 rfl w.heap.size 3 i0 (.int .i64 0) 1 Tryz.underlying22 hi hz0 hz1 .i64 .i64 _ _ N rfl rfl rfl rfl ?b2 ?b3 ?b4 ?_)
 case b2 => rw [hz2]; omega
 case b3 => unfold maxLen; omega
 case b4 => exact Nat.le_refl _
 intro w1 hown hgrow
 obtain ⟨g, hg⟩ : ∃ g, g = w.heap.size := ⟨_, rfl⟩
 rw [← hg] at hown ⊢
 have HG := Lib.hid hg
 have HB1 := Lib.hid ((Below.refl w.heap.size w).grown hgrow (Nat.le_refl _) (fun k hk => by cases hk))
 rw [toList_madeCells_one] at hown
 have HO := Lib.hid hown
 clear hown hgrow hg
 go_wp2
 go_loopw [9] (fun i wr => ∃ k : Nat, k ≤ N ∧ i = .int .i64 k ∧ (∃ xs, wr.ownsRow g 3 1 (.slice (some ⟨g, 0, none⟩) N N) N xs ∧ ∀ j : Nat, j < k → xs[j]? = some (.int .i64 (j : Nat))) ∧ Below w.heap.size w wr) (fun i _ => N - (intOf i).toNat)
 case atStart => exact ⟨0, Nat.zero_le _, rfl, ⟨_, HO.out, fun j hj => by omega⟩, HB1.out⟩
 case round =>
  obtain ⟨k, hk, rfl, ⟨xs, hxs, hpart⟩, hbw⟩ := hrel
  have HXS := Lib.hid hxs
  have HP := Lib.hid hpart
  have HBW := Lib.hid hbw
  have hxl : xs.length = N := by have := hxs.1; omega
  have HXL := Lib.hid hxl
  clear hxs hpart hbw
  by_cases hlt : k < N
  · obtain ⟨u, hu⟩ : ∃ u, xs[k]? = some u := ⟨xs[k]'(by omega), List.getElem?_eq_getElem _⟩
    have hcg : wr.cell? ⟨g, k, none⟩ = some u := by rw [HXS.out.cellAt k (by omega)]; exact hu
    have hfg : wr.frozen? ⟨g, k, none⟩ = false := HXS.out.frozenAt k
    clear hu hxl
    go_wp2
    go_roundw
    case rel =>
     refine ⟨k + 1, by omega, by go_num, ⟨_, (HXS.out.stored k _).1, fun j hj => ?_⟩, HBW.out.setCell (by show w.heap.size ≤ g; rw [HG.out]; exact Nat.le_refl _) _⟩
     by_cases he : j = k
     · rw [he, List.getElem?_set_self (by rw [HXL.out]; exact hlt)]
     · rw [List.getElem?_set_ne (fun e => he e.symm)]
       exact HP.out j (by omega)
    case measure => simp [intOf]; omega
  · obtain rfl : k = N := by omega
    have HX : xs = (upN k).map (Value.int .i64) := by
     apply List.ext_getElem?
     intro j
     by_cases hj : j < k
     · rw [HP.out j hj]; simp [upN, hj]
     · rw [List.getElem?_eq_none (by rw [HXL.out]; omega), List.getElem?_eq_none (by simp [upN]; omega)]
    have HR := Lib.hid (show OwnI w.heap.size wr (.slice (some ⟨g, 0, none⟩) k k) (upN k) by
     have h := HXS.out
     rw [HX, HG.out] at h
     unfold OwnI
     rw [upN_length, HG.out]
     exact h)
    clear hxl HX
    go_wp2
    go_ret
    exact ⟨_, rfl, HR.out, HBW.out⟩
theorem box3_new (w : World) (a b c : Value) (t : TypeId) : (w.alloc (.cells #[a, b, c] t)).cell? ⟨w.heap.size, 0, none⟩ = some a ∧ (w.alloc (.cells #[a, b, c] t)).cell? ⟨w.heap.size, 1, none⟩ = some b ∧ (w.alloc (.cells #[a, b, c] t)).cell? ⟨w.heap.size, 2, none⟩ = some c := by
 have h := heap_alloc_new w (.cells #[a, b, c] t)
 exact ⟨(at_cell h 0 _ rfl).1, (at_cell h 1 _ rfl).1, (at_cell h 2 _ rfl).1⟩
set_option maxHeartbeats 2000000 in
theorem chainChecks_in {B : Nat} (d : Value) (c : QCh) (w : World) (hd : OwnI B w d c.ds) (h1 : c.ds ≠ []) (h2 : c.head = c.ds.getD 0 0) (h3 : 0 ≤ c.room) (h4 : c.room ≤ 2147483647) :
 Calls Tryz.prog 41 #[.agg #[.int .i64 c.head, d, .int .i64 c.room]] w fun e w' => e = .returned (.bool true) ∧ Below w.heap.size w w' := by
 obtain ⟨a, cap, rfl, h5, h6⟩ := hd.shape
 obtain ⟨g, cur, rfl, _, hlt, _, _⟩ := hd.lie h1
 obtain ⟨hd0, ds, rm⟩ := c
 simp only at hd h1 h2 h3 h4 h5 ⊢
 obtain ⟨n, hn⟩ : ∃ n, n = ds.length := ⟨_, rfl⟩
 have h0 : 0 < n := by rw [hn]; exact List.length_pos_iff.2 h1
 have hB := (Below.refl w.heap.size w).alloc (Nat.le_refl _) (.cells #[.int .i64 hd0, .slice (some ⟨g, 0, none⟩) n cap, .int .i64 rm] 76)
 obtain ⟨b0, b1, b2⟩ := box3_new w (.int .i64 hd0) (.slice (some ⟨g, 0, none⟩) n cap) (.int .i64 rm) 76
 have hc0 : (w.alloc (.cells #[.int .i64 hd0, .slice (some ⟨g, 0, none⟩) n cap, .int .i64 rm] 76)).cell? ⟨g, 0, none⟩ = some (.int .i64 hd0) := by
  have h7 := hd.at 0 (by omega)
  rw [← h2] at h7
  exact (hB.cell (p := ⟨g, 0, none⟩) hlt).trans h7
 have hb0 : decide (0 < n) = true := decide_eq_true h0
 have hb1 : decide ((0 : Int) < (n : Nat)) = true := decide_eq_true (by omega)
 have hb2 : (hd0 == hd0) = true := by simp
 have HC := Lib.hid (show ∀ W, Calls Tryz.prog 45 #[.int .i64 rm] W fun e w' => e = .returned (.bool true) ∧ w' = W from fun W => isCount_in rm h3 h4 W)
 have HB := Lib.hid hB
 have HH := Lib.hid h2
 rw [← hn] at h5 ⊢
 unfold maxLen at h6
 clear hd h1 h2 h3 h4 hn hlt hB
 go_enter Tryz.func41, Tryz.ntmps41
 go_wp2_with fail
 go_quiet ((go_at_call 45; refine Calls.quiet_of_same (HC.out _)))
 go_wp2
 go_ret
 exact ⟨rfl, below_drewN HB.out _⟩
set_option maxHeartbeats 1000000 in
theorem lies_in (a : Option Addr) (L c at_ n : Nat) (hL : L ≤ 8192) (h1 : 1 ≤ n) (h2 : at_ + n ≤ L) (w : World) :
 Calls Tryz.prog 56 #[.agg #[.slice a L c], .int .u64 (at_ : Nat), .int .u64 (n : Nat)] w fun e w' => e = .returned (.bool true) ∧ Below w.heap.size w w' := by
 obtain ⟨d, hd⟩ : ∃ d, L = at_ + d := ⟨L - at_, by omega⟩
 have HB := Lib.hid ((Below.refl w.heap.size w).alloc (Nat.le_refl _) (.cells #[.slice a L c] 26))
 have hw1 : IntKind.u64.wrap ((L : Nat) : Int) = (L : Nat) := IntWalk.u64_in _ (by omega)
 have hw2 : ((L : Nat) : Int) - (at_ : Nat) = (d : Nat) := by omega
 have hw3 : IntKind.u64.wrap ((d : Nat) : Int) = (d : Nat) := IntWalk.u64_in _ (by omega)
 have e1 : decide ((1 : Int) ≤ (n : Nat)) = true := decide_eq_true (by omega)
 have e2 : decide (((at_ : Nat) : Int) ≤ (L : Nat)) = true := decide_eq_true (by omega)
 have e3 : decide (((n : Nat) : Int) ≤ (d : Nat)) = true := decide_eq_true (by omega)
 have f1 : 1 ≤ n := h1
 have f2 : at_ ≤ L := by omega
 have f3 : n ≤ d := by omega
 have HD := Lib.hid hd
 clear h2 hd
 go_enter Tryz.func56, Tryz.ntmps56
 go_wp2
 go_ret
 exact ⟨rfl, HB.out⟩
theorem bits_two : bits BinOp.and IntKind.u16 ((0 : Nat) : Int) 2 = 0 ∧ bits BinOp.and IntKind.u16 ((1 : Nat) : Int) 2 = 0 ∧ bits BinOp.and IntKind.u16 ((2 : Nat) : Int) 2 = 2 ∧ bits BinOp.and IntKind.u16 ((3 : Nat) : Int) 2 = 2 := ⟨by kernel_rfl, by kernel_rfl, by kernel_rfl, by kernel_rfl⟩
theorem bits_one : bits BinOp.and IntKind.u16 ((0 : Nat) : Int) 1 = 0 ∧ bits BinOp.and IntKind.u16 ((1 : Nat) : Int) 1 = 1 ∧ bits BinOp.and IntKind.u16 ((2 : Nat) : Int) 1 = 0 ∧ bits BinOp.and IntKind.u16 ((3 : Nat) : Int) 1 = 1 := ⟨by kernel_rfl, by kernel_rfl, by kernel_rfl, by kernel_rfl⟩
set_option maxHeartbeats 1000000 in
theorem partOf_in (a n f x : Nat) (b : Bool) (y : Int) (ha : a < 9223372036854775808) (hn : n < 4294967296) (hy : bits BinOp.and IntKind.u16 ((f : Nat) : Int) 2 = y) (hf : (b = false ∧ y = 0) ∨ (b = true ∧ y = 2)) (w : World) :
 Calls Tryz.prog 68 #[.agg #[.int .u64 (a : Nat), .int .u32 (n : Nat), .int .u16 (f : Nat), .int .u16 (x : Nat)]] w fun e w' => e = .returned (.agg #[.int .i64 (a : Nat), .int .i64 (n : Nat), .bool b]) ∧ Below w.heap.size w w' := by
 have hw1 : IntKind.i64.wrap ((a : Nat) : Int) = (a : Nat) := IntWalk.i64_in _ (by omega)
 have hw2 : IntKind.i64.wrap ((n : Nat) : Int) = (n : Nat) := IntWalk.i64_in _ (by omega)
 rcases hf with ⟨rfl, rfl⟩ | ⟨rfl, rfl⟩
 all_goals
  go_enter Tryz.func68, Tryz.ntmps68
  go_wp2
  refine bodyPost_ret (v := .agg #[.int .i64 (a : Nat), .int .i64 (n : Nat), .bool _]) (by simp [results, Tryz.results68, go_sem]) rfl ⟨rfl, ?_⟩
  exact ((Below.refl w.heap.size w).alloc (Nat.le_refl _) _).alloc (by simp) _
theorem serve_any (b n : Int) (w : World) : Calls Tryz.prog 8 #[.int .i64 b, .int .i64 n] w fun e w' => e = .returned (.agg #[.int .i64 b, .int .i64 n, .int .u16 0, .int .u16 0]) ∧ Below w.heap.size w w' := by
 go_enter Tryz.func8, Tryz.ntmps8
 go_wp2
 refine bodyPost_ret (v := .agg #[.int .i64 b, .int .i64 n, .int .u16 0, .int .u16 0]) (by simp [results, Tryz.results8, go_sem]) rfl ⟨rfl, ?_⟩
 exact (Below.refl w.heap.size w).alloc (Nat.le_refl _) _
set_option maxHeartbeats 1000000 in
theorem queSame_any (v : Value) (l : List UInt8) (w : World) (hv : IsArg w v l) (hl : l.length ≤ 140737488355328) :
 Calls Tryz.prog 20 #[.agg #[v]] w fun e w' => ∃ r, e = .returned (.agg #[r]) ∧ w'.ownsRow w.heap.size 5 1 r l.length (byteCells l) ∧ Below w.heap.size w w' := by
 have HV := Lib.hid hv
 have HB := Lib.hid (((Below.refl w.heap.size w).alloc (Nat.le_refl _) (.cells #[v] 26)).alloc (by simp) (.cells #[.slice none 0 0] 26))
 obtain ⟨a, c, rfl, _⟩ := hv.shape
 clear hv
 go_enter Tryz.func20, Tryz.ntmps20
 go_wp2_with fail
 refine (clone_any _ _ _ (HV.out.below HB.out) hl).mono ?_
 rintro e w1 ⟨r, rfl, hr, hb⟩
 have HB1 := Lib.hid (HB.out.trans (hb.mono (by simp; omega)))
 have HR := Lib.hid hr
 obtain ⟨_, hold, hfz, hlt⟩ := second_box hb
 obtain ⟨ra, rc, rfl, _⟩ := (isArg_of_owns hr).shape
 clear hr hb
 go_wp2
 refine bodyPost_ret (v := .agg #[.slice ra l.length rc]) (by simp [results, Tryz.results20, go_sem, hold]) rfl ⟨_, rfl, ?_, ?_⟩
 · exact ownsRow_base (ownsRow_set HR.out _ _ (by simp)) (by simp; omega)
 · exact HB1.out.setCell (by simp) _
end Go.Proofs.YtnmekbbnglkmcaaGreat
namespace Go.Proofs.YtnmekbbnglkmcaaGreat
open Go.RowKit Go.Lib
abbrev put6 (X : World) (r : Nat) (a b c d e f : Value) : World := (((((X.setCell ⟨r, 0, none⟩ a).setCell ⟨r, 1, none⟩ b).setCell ⟨r, 2, none⟩ c).setCell ⟨r, 3, none⟩ d).setCell ⟨r, 4, none⟩ e).setCell ⟨r, 5, none⟩ f
theorem six_row {X : World} {r : Nat} {a' b' c' d' e' f' : Value} {t : TypeId} {fr : Nat × Nat} (h : X.heap[r]? = some (.cells #[a', b', c', d', e', f'] t fr)) (a b c d e f : Value) : (put6 X r a b c d e f).heap[r]? = some (.cells #[a, b, c, d, e, f] t fr) :=
 row_put (row_put (row_put (row_put (row_put (row_put h 0 a) 1 b) 2 c) 3 d) 4 e) 5 f
theorem six_far {X : World} {r k : Nat} {o : Obj} (h : X.heap[k]? = some o) (hne : r ≠ k) (a b c d e f : Value) : (put6 X r a b c d e f).heap[k]? = some o :=
 one_other (one_other (one_other (one_other (one_other (one_other h _ _ hne) _ _ hne) _ _ hne) _ _ hne) _ _ hne) _ _ hne
theorem six_below {B : Nat} {w X : World} {r : Nat} (h : Below B w X) (hr : B ≤ r) (a b c d e f : Value) : Below B w (put6 X r a b c d e f) :=
 (((((h.setCell (p := ⟨r, 0, none⟩) hr a).setCell (p := ⟨r, 1, none⟩) hr b).setCell (p := ⟨r, 2, none⟩) hr c).setCell (p := ⟨r, 3, none⟩) hr d).setCell (p := ⟨r, 4, none⟩) hr e).setCell (p := ⟨r, 5, none⟩) hr f
theorem six_q {B r : Nat} {X : World} {F C : Value} {q : QQ} {D : List Value} {cs : Array Value} {t : TypeId} {fr : Nat × Nat} (h : IsQ B X F C q D) (hg : X.heap[r]? = some (.cells cs t fr)) (h1 : (t : Nat) ≠ 3) (h2 : (t : Nat) ≠ 76) (a b c d e f : Value) : IsQ B (put6 X r a b c d e f) F C q D :=
 (((((h.stay hg h1 h2 0 a).stay (row_put hg 0 a) h1 h2 1 b).stay (row_put (row_put hg 0 a) 1 b) h1 h2 2 c).stay (row_put (row_put (row_put hg 0 a) 1 b) 2 c) h1 h2 3 d).stay (row_put (row_put (row_put (row_put hg 0 a) 1 b) 2 c) 3 d) h1 h2 4 e).stay (row_put (row_put (row_put (row_put (row_put hg 0 a) 1 b) 2 c) 3 d) 4 e) h1 h2 5 f
theorem six_owns {B r : Nat} {X : World} {ty : TypeId} {s n : Nat} {v : Value} {xs : List Value} {cs : Array Value} {t : TypeId} {fr : Nat × Nat} (h : X.ownsRow B ty s v n xs) (hg : X.heap[r]? = some (.cells cs t fr)) (h1 : (t : Nat) ≠ ty) (a b c d e f : Value) : (put6 X r a b c d e f).ownsRow B ty s v n xs :=
 owns_stay (owns_stay (owns_stay (owns_stay (owns_stay (owns_stay h hg h1 0 a) (row_put hg 0 a) h1 1 b) (row_put (row_put hg 0 a) 1 b) h1 2 c) (row_put (row_put (row_put hg 0 a) 1 b) 2 c) h1 3 d) (row_put (row_put (row_put (row_put hg 0 a) 1 b) 2 c) 3 d) h1 4 e) (row_put (row_put (row_put (row_put (row_put hg 0 a) 1 b) 2 c) 3 d) 4 e) h1 5 f
theorem cells_six {X : World} {r : Nat} {a b c d e f : Value} {t : TypeId} (h : X.heap[r]? = some (.cells #[a, b, c, d, e, f] t (0, 0))) :
 (X.cell? ⟨r, 0, none⟩ = some a ∧ X.cell? ⟨r, 1, none⟩ = some b ∧ X.cell? ⟨r, 2, none⟩ = some c ∧ X.cell? ⟨r, 3, none⟩ = some d ∧ X.cell? ⟨r, 4, none⟩ = some e ∧ X.cell? ⟨r, 5, none⟩ = some f) ∧
 (X.frozen? ⟨r, 0, none⟩ = false ∧ X.frozen? ⟨r, 1, none⟩ = false ∧ X.frozen? ⟨r, 2, none⟩ = false ∧ X.frozen? ⟨r, 3, none⟩ = false ∧ X.frozen? ⟨r, 4, none⟩ = false ∧ X.frozen? ⟨r, 5, none⟩ = false) :=
 ⟨⟨(at_cell h 0 _ rfl).1, (at_cell h 1 _ rfl).1, (at_cell h 2 _ rfl).1, (at_cell h 3 _ rfl).1, (at_cell h 4 _ rfl).1, (at_cell h 5 _ rfl).1⟩, ⟨(at_cell h 0 _ rfl).2, (at_cell h 1 _ rfl).2, (at_cell h 2 _ rfl).2, (at_cell h 3 _ rfl).2, (at_cell h 4 _ rfl).2, (at_cell h 5 _ rfl).2⟩⟩
theorem cells_three {X : World} {r : Nat} {a b c : Value} {t : TypeId} (h : X.heap[r]? = some (.cells #[a, b, c] t (0, 0))) :
 (X.cell? ⟨r, 0, none⟩ = some a ∧ X.cell? ⟨r, 1, none⟩ = some b ∧ X.cell? ⟨r, 2, none⟩ = some c) ∧ (X.frozen? ⟨r, 0, none⟩ = false ∧ X.frozen? ⟨r, 1, none⟩ = false ∧ X.frozen? ⟨r, 2, none⟩ = false) :=
 ⟨⟨(at_cell h 0 _ rfl).1, (at_cell h 1 _ rfl).1, (at_cell h 2 _ rfl).1⟩, ⟨(at_cell h 0 _ rfl).2, (at_cell h 1 _ rfl).2, (at_cell h 2 _ rfl).2⟩⟩
theorem tqI : (30 : Nat) ≠ 3 := by decide
theorem tqC : (30 : Nat) ≠ 76 := by decide
theorem tCI : (76 : Nat) ≠ 3 := by decide
structure Half (M : Nat) (W : World) (L : List QCh) (D : List Value) (k : Nat) (E : List Value) : Prop where
 len : E.length = L.length
 own : ∀ (i : Nat) (d : Value) (c : QCh), i < k → E[i]? = some d → L[i]? = some c → OwnI M W d c.ds
 rest : ∀ i, k ≤ i → E[i]? = D[i]?
theorem Half.put {M : Nat} {wr w2 : World} {L : List QCh} {D E : List Value} {k g n cap B : Nat} {r : Value} {xs : List Value} (h : Half M wr L D k E) (hb : Below wr.heap.size wr w2) (hx : w2.ownsRow B 76 3 (.slice (some ⟨g, 0, none⟩) n cap) n xs) (hM : M ≤ wr.heap.size) {c : QCh} (hc : L[k]? = some c) (hr : OwnI wr.heap.size w2 r c.ds) (j : Nat) : Half M (w2.setCell ⟨g, j, none⟩ r) L D (k + 1) (E.set k r) := by
 obtain ⟨cur, fr, hrow⟩ : ∃ cur fr, w2.heap[g]? = some (.cells cur 76 fr) := by
  rcases hx.2 with ⟨h1, _⟩ | ⟨g', cap', cur, h1, _, hh, _⟩
  · cases h1
  · cases h1
    exact ⟨cur, _, hh⟩
 have hk : k < E.length := by rw [h.len]; exact (List.getElem?_eq_some_iff.1 hc).1
 refine ⟨by rw [List.length_set]; exact h.len, fun i d c' hi hd hc' => ?_, fun i hi => ?_⟩
 · by_cases he : i = k
   · subst he
     rw [List.getElem?_set_self hk] at hd
     cases hd
     rw [hc] at hc'
     cases hc'
     exact (hr.base hM).stay hrow tCI j r
   · rw [List.getElem?_set_ne (fun e => he e.symm)] at hd
     exact ((h.own i d c' (by omega) hd hc').below hb).stay hrow tCI j r
 · rw [List.getElem?_set_ne (by omega)]
   exact h.rest i (by omega)
theorem held_two {w w' : World} {a b : Addr} {u v : Value} (h : w.cell? a = some u ∧ w.cell? b = some v) (hb : Below w.heap.size w w') : w'.cell? a = some u ∧ w'.cell? b = some v := ⟨kept h.1 hb, kept h.2 hb⟩
theorem held_far {w : World} {g i j a b : Nat} {x u v : Value} (ha : a ≠ g) (hb : b ≠ g) (h : w.cell? ⟨a, i, none⟩ = some u ∧ w.cell? ⟨b, j, none⟩ = some v) (k : Nat) : (w.setCell ⟨g, k, none⟩ x).cell? ⟨a, i, none⟩ = some u ∧ (w.setCell ⟨g, k, none⟩ x).cell? ⟨b, j, none⟩ = some v := by
 refine ⟨?_, ?_⟩
 · unfold World.cell?; rw [Below.heap_setCell _ _ _ _ ha]; exact h.1
 · unfold World.cell?; rw [Below.heap_setCell _ _ _ _ hb]; exact h.2
set_option maxHeartbeats 4000000 in
set_option maxRecDepth 100000 in
theorem copied_any (q : QQ) (N : Nat) (F C : Value) (D : List Value) (w : World) (hq : IsQ 0 w F C q D) (hg : GoodQ q N) :
 Calls Tryz.prog 55 #[.agg #[.int .i64 q.base, .int .i64 q.size, F, .int .u16 (q.avail : Nat), .int .u16 (q.last : Nat), C]] w fun e w' => ∃ F' C' E, e = .returned (.agg #[.int .i64 q.base, .int .i64 q.size, F', .int .u16 (q.avail : Nat), .int .u16 (q.last : Nat), C']) ∧ IsQ w.heap.size w' F' C' q E ∧ Below w.heap.size w w' := by
 obtain ⟨few1, few2, few3, few4, few5⟩ := hg.few
 have HQ := Lib.hid hq
 obtain ⟨fa, fn, fc, ca, cn, cc, rfl, rfl, hfn, hcn, _, _, _, _⟩ := hq.shape
 obtain ⟨b, z, fr, av, la, ch⟩ := q
 simp only at *
 have HG := Lib.hid (show ∀ c ∈ ch, c.ds.length ≤ 16 from fun c hc => Nat.le_trans (few5 c hc) few3)
 have HFN := Lib.hid hfn
 have HCN := Lib.hid hcn
 have hcn16 : cn ≤ 16 := by omega
 obtain ⟨t0, t1⟩ : (((w.alloc (.cells #[.int .i64 b, .int .i64 z, (.slice fa fn fc), .int .u16 (av : Nat), .int .u16 (la : Nat), (.slice ca cn cc)] 30)).alloc (.cells #[.int .i64 0, .int .i64 0, .slice none 0 0, .int .u16 0, .int .u16 0, .slice none 0 0] 30)).heap[w.heap.size]? = some (.cells #[.int .i64 b, .int .i64 z, (.slice fa fn fc), .int .u16 (av : Nat), .int .u16 (la : Nat), (.slice ca cn cc)] 30 (0, 0))) ∧ (((w.alloc (.cells #[.int .i64 b, .int .i64 z, (.slice fa fn fc), .int .u16 (av : Nat), .int .u16 (la : Nat), (.slice ca cn cc)] 30)).alloc (.cells #[.int .i64 0, .int .i64 0, .slice none 0 0, .int .u16 0, .int .u16 0, .slice none 0 0] 30)).heap[w.heap.size + 1]? = some (.cells #[.int .i64 0, .int .i64 0, .slice none 0 0, .int .u16 0, .int .u16 0, .slice none 0 0] 30 (0, 0))) :=
  ⟨row_new (heap_alloc_new w _) _, by simpa using heap_alloc_new (w.alloc (.cells #[.int .i64 b, .int .i64 z, (.slice fa fn fc), .int .u16 (av : Nat), .int .u16 (la : Nat), (.slice ca cn cc)] 30)) (.cells #[.int .i64 0, .int .i64 0, .slice none 0 0, .int .u16 0, .int .u16 0, .slice none 0 0] 30)⟩
 have HB0 := Lib.hid (((Below.refl w.heap.size w).alloc (Nat.le_refl _) (.cells #[.int .i64 b, .int .i64 z, (.slice fa fn fc), .int .u16 (av : Nat), .int .u16 (la : Nat), (.slice ca cn cc)] 30)).alloc (by simp) (.cells #[.int .i64 0, .int .i64 0, .slice none 0 0, .int .u16 0, .int .u16 0, .slice none 0 0] 30))
 have HP := Lib.hid t0
 have HR := Lib.hid t1
 have hs0 : ((w.alloc (.cells #[.int .i64 b, .int .i64 z, (.slice fa fn fc), .int .u16 (av : Nat), .int .u16 (la : Nat), (.slice ca cn cc)] 30)).alloc (.cells #[.int .i64 0, .int .i64 0, .slice none 0 0, .int .u16 0, .int .u16 0, .slice none 0 0] 30)).heap.size = w.heap.size + 2 := by simp
 have HS0 := Lib.hid hs0
 have HFL := Lib.hid (show fr.length ≤ 1000 by omega)
 have HCL := Lib.hid (show ch.length ≤ 1000 by omega)
 clear hq hg few1 few2 few3 few4 few5 t0 t1 hs0 hfn hcn
 go_enter Tryz.func55, Tryz.ntmps55
 go_wp2_with fail
 refine (cloneI_any _ _ _ (HQ.out.free.below HB0.out) HFL.out).mono ?_
 rintro e w1 ⟨F', rfl, hF, hb⟩
 replace HP := Lib.hid (row_keep HP.out hb)
 replace HR := Lib.hid (row_keep HR.out hb)
 replace HB0 := Lib.hid (HB0.out.trans (hb.mono HB0.out.size))
 have HF := Lib.hid (hF.base (B' := w.heap.size) (by rw [HS0.out]; omega))
 have HFB := Lib.hid (show ∀ p, F'.ownBlock = some p → p < w1.heap.size from fun p hp => (hF.lt p hp).2)
 obtain ⟨fa', fc', rfl, hfs, hfm⟩ := hF.shape
 have hlt1 : w.heap.size < w1.heap.size := by have := hb.size; rw [HS0.out] at this; omega
 have hlt2 : w.heap.size + 1 < w1.heap.size := by have := hb.size; rw [HS0.out] at this; omega
 obtain ⟨c2, z2⟩ := at_cell HP.out 2 _ rfl
 have HP2 := Lib.hid (row_put HP.out 2 (.slice fa' fr.length fc'))
 have HR2 := Lib.hid (one_other HR.out ⟨w.heap.size, 2, none⟩ (.slice fa' fr.length fc') (by simp))
 have HF2 := Lib.hid (HF.out.stay HP.out tqI 2 (.slice fa' fr.length fc'))
 have HB2 := Lib.hid (HB0.out.setCell (p := ⟨w.heap.size, 2, none⟩) (Nat.le_refl _) (.slice fa' fr.length fc'))
 have HSS := Lib.hid (show (w1.setCell ⟨w.heap.size, 2, none⟩ (.slice fa' fr.length fc')).heap.size = w1.heap.size from set_size _ _ _)
 obtain ⟨c5, z5⟩ := at_cell HP2.out 5 _ rfl
 clear hb hF hfs hfm HP HR HF HB0
 go_wp2_with fail
 refine (cloneC_any _ _ D _ (HQ.out.chains.below HB2.out) HCL.out).mono ?_
 rintro e w2 ⟨C', rfl, hC, hb⟩
 replace HP2 := Lib.hid (row_keep HP2.out hb)
 replace HR2 := Lib.hid (row_keep HR2.out hb)
 replace HF2 := Lib.hid (HF2.out.below hb)
 replace HB2 := Lib.hid (HB2.out.trans (hb.mono HB2.out.size))
 obtain ⟨ca', cc', rfl, hcs, hcm⟩ := owns_slice hC
 rw [← HCN.out] at hC hcs ⊢
 have hs2 : w1.heap.size ≤ w2.heap.size := by have := hb.size; rw [HSS.out] at this; exact this
 have HM := Lib.hid hs2
 have hltA : w.heap.size < w2.heap.size := by omega
 have hltB : w.heap.size + 1 < w2.heap.size := by omega
 have HCB := Lib.hid (show ∀ p, (Value.slice ca' cn cc').ownBlock = some p → w1.heap.size ≤ p ∧ p < w2.heap.size from fun p hp => by
  have h := hC.lt p hp
  rw [HSS.out] at h
  exact h)
 have HCO := Lib.hid (ownsRow_base (base' := w.heap.size) hC (by rw [HSS.out]; omega))
 clear c2 z2 c5 z5
 obtain ⟨c5, z5⟩ := at_cell HP2.out 5 _ rfl
 have HP3 := Lib.hid (row_put HP2.out 5 (.slice ca' cn cc'))
 have HR3 := Lib.hid (one_other HR2.out ⟨w.heap.size, 5, none⟩ (.slice ca' cn cc') (by simp))
 have HF3 := Lib.hid (HF2.out.stay HP2.out tqI 5 (.slice ca' cn cc'))
 have HC3 := Lib.hid (owns_stay HCO.out HP2.out tqC 5 (.slice ca' cn cc'))
 have HB3 := Lib.hid (HB2.out.setCell (p := ⟨w.heap.size, 5, none⟩) (Nat.le_refl _) (.slice ca' cn cc'))
 obtain ⟨X3, hX3⟩ : ∃ X, X = w2.setCell ⟨w.heap.size, 5, none⟩ (.slice ca' cn cc') := ⟨_, rfl⟩
 have hs3 : X3.heap.size = w2.heap.size := by rw [hX3]; exact set_size _ _ _
 rw [← hX3] at HP3 HR3 HF3 HC3 HB3
 have HX3 := Lib.hid hX3
 have HS3 := Lib.hid hs3
 clear hb hC hcs hcm HP2 HR2 HF2 HB2 HCO hs3 hX3
 go_wp2_with fail
 rw [← HX3.out]
 have HD0 := Lib.hid (show Half w1.heap.size X3 ch D 0 D from ⟨HQ.out.chains.len, fun i d c hi => by omega, fun i _ => rfl⟩)
 obtain ⟨d5, y5⟩ := at_cell HP3.out 5 _ rfl
 go_wp2
 clear d5 y5
 go_loopw [16] (fun i wr => ∃ k : Nat, k ≤ cn ∧ i = .int .i64 k ∧ (∃ E, wr.ownsRow w.heap.size 76 3 (.slice ca' cn cc') cn (chCells ch E) ∧ Half w1.heap.size wr ch D k E) ∧ OwnI w.heap.size wr (.slice fa' fr.length fc') fr ∧ wr.heap[w.heap.size]? = some (.cells #[.int .i64 b, .int .i64 z, (.slice fa' fr.length fc'), .int .u16 (av : Nat), .int .u16 (la : Nat), (.slice ca' cn cc')] 30 (0, 0)) ∧ wr.heap[w.heap.size + 1]? = some (.cells #[.int .i64 0, .int .i64 0, .slice none 0 0, .int .u16 0, .int .u16 0, .slice none 0 0] 30 (0, 0)) ∧ w2.heap.size ≤ wr.heap.size ∧ Below w.heap.size w wr) (fun i _ => cn - (intOf i).toNat)
 case atStart => exact ⟨0, Nat.zero_le _, rfl, ⟨_, HC3.out, HD0.out⟩, HF3.out, HP3.out, HR3.out, by rw [HS3.out]; exact Nat.le_refl _, HB3.out⟩
 case round =>
  obtain ⟨k, hk, rfl, ⟨E, hE, hH⟩, hF, hP, hR, hsz, hbw⟩ := hrel
  have HE := Lib.hid hE
  have HH := Lib.hid hH
  have HFw := Lib.hid hF
  have HPw := Lib.hid hP
  have HRw := Lib.hid hR
  have HBw := Lib.hid hbw
  clear hE hH hF hP hR hbw
  by_cases hlt : k < cn
  · obtain ⟨g, cap, cur, hv, hgb, hh, hnc, hcm2⟩ := owns_shape HE.out (by omega)
    cases hv
    obtain ⟨c, hc⟩ : ∃ c, ch[k]? = some c := ⟨ch[k]'(by rw [← HCN.out]; exact hlt), List.getElem?_eq_getElem _⟩
    obtain ⟨d, hd⟩ : ∃ d, E[k]? = some d := ⟨E[k]'(by rw [HH.out.len, ← HCN.out]; exact hlt), List.getElem?_eq_getElem _⟩
    obtain ⟨e1, e2, e3⟩ := chCells_at k c d hc hd
    have hdD : D[k]? = some d := by rw [← HH.out.rest k (Nat.le_refl _)]; exact hd
    have hdo := (HQ.out.chains.below HBw.out).ds k d c hdD hc
    obtain ⟨da, dc, rfl, hds, hdm⟩ := hdo.shape
    obtain ⟨ch0, cds, crm⟩ := c
    simp only at e1 e2 e3 hdo hds
    have HDO := Lib.hid hdo
    have HDL := Lib.hid (show cds.length ≤ 1000 by
     have := HG.out _ (List.mem_of_getElem? hc)
     simp only at this
     omega)
    have HCK := Lib.hid hc
    have hg0 : wr.cell? ⟨g, k * 3, none⟩ = some (.int .i64 ch0) := by rw [HE.out.cellAt (k * 3) (by omega)]; exact e1
    have hg1 : wr.cell? ⟨g, k * 3 + 1, none⟩ = some (.slice da cds.length dc) := by rw [HE.out.cellAt (k * 3 + 1) (by omega)]; exact e2
    have hg2 : wr.cell? ⟨g, k * 3 + 2, none⟩ = some (.int .i64 crm) := by rw [HE.out.cellAt (k * 3 + 2) (by omega)]; exact e3
    have HBX := Lib.hid ((Below.refl wr.heap.size wr).alloc (Nat.le_refl _) (.cells #[.int .i64 ch0, .slice da cds.length dc, .int .i64 crm] 76))
    have HBC := Lib.hid (heap_alloc_new wr (.cells #[.int .i64 ch0, .slice da cds.length dc, .int .i64 crm] 76))
    obtain ⟨b5, _⟩ := at_cell (row_keep HPw.out HBX.out) 5 _ rfl
    obtain ⟨b1, _⟩ := at_cell HBC.out 1 _ rfl
    have hgk := kept hg1 HBX.out
    have hlen : 0 ≤ (k : Int) ∧ (k : Int) < (cn : Int) := by omega
    obtain ⟨hl0, hl1⟩ := hlen
    have hgw : g < wr.heap.size := (HE.out.lt g rfl).2
    have hne1 : w.heap.size ≠ g := fun e => by
     have := HPw.out
     rw [e, hh] at this
     injection this with this
     injection this with _ this _
     exact absurd this (by decide)
    have hne2 : wr.heap.size ≠ g := by omega
    have hne3 : g ≠ w.heap.size + 1 := fun e => by
     have := HRw.out
     rw [← e, hh] at this
     injection this with this
     injection this with _ this _
     exact absurd this (by decide)
    clear hh hd hdD hdo hds hdm e1 e2 e3 hc
    go_wp2_with fail
    go_region_held3 (fun w' => w'.cell? ⟨w.heap.size, 5, none⟩ = some (.slice (some ⟨g, 0, none⟩) cn cc') ∧ w'.cell? ⟨wr.heap.size, 1, none⟩ = some (.slice da cds.length dc)) (first | (with_reducible exact held_two (by assumption) hb) | (with_reducible exact held_far hne1 hne2 (by assumption) _) | go_keep) (first
     | (go_at_call 40; refine (cloneI_any _ _ _ (HDO.out.below (by first | exact HBX.out | exact HBX.out.drew)) HDL.out).mono ?_; rintro e w4 ⟨r, rfl, hr, hb⟩; obtain ⟨ra, rc, rfl, hrn, _⟩ := hr.shape; clear hrn; have HR4 := Lib.hid hr; clear hr; have hw1 := kept (w := (wr.alloc (.cells #[.int .i64 ch0, .slice da cds.length dc, .int .i64 crm] 76)).drew) hgk hb; have hw3 := (ownsRow_below HE.out (HBX.out.drew.trans (hb.mono HBX.out.drew.size))).frozenAt (k * 3 + 1)))
    have HB4 := Lib.hid (HBX.out.drew.trans (hb.mono HBX.out.drew.size))
    have HE4 := Lib.hid (ownsRow_below HE.out HB4.out)
    have HS4 := Lib.hid HB4.out.size
    have HR5 := Lib.hid (HR4.out.base HBX.out.drew.size)
    obtain ⟨_, _, cur4, hv4, _, hh4, _⟩ := owns_shape HE4.out (by omega)
    cases hv4
    have HH4 := Lib.hid hh4
    clear hw1 hw3 hb hgk hg0 hg1 hg2 b5 b1 HR4 hh4
    go_wp2
    go_roundw
    case rel =>
     refine ⟨k + 1, by omega, by go_num, ⟨E.set k (.slice ra cds.length rc), ?_, HH.out.put HB4.out HE4.out (by have := HM.out; omega) HCK.out HR5.out _⟩, (HFw.out.below HB4.out).stay HH4.out tCI _ _, one_other (row_keep HPw.out HB4.out) _ _ (fun e => hne1 e.symm), one_other (row_keep HRw.out HB4.out) _ _ hne3, ?_, ?_⟩
     · rw [← chCells_set HH.out.len]
       exact (HE4.out.stored (k * 3 + 1) _).1
     · rw [set_size]
       have := HS4.out
       omega
     · exact (HBw.out.trans (HB4.out.mono HBw.out.size)).setCell (p := ⟨g, k * 3 + 1, none⟩) hgb _
    case measure => simp [intOf]; omega
  · obtain rfl : k = cn := by omega
    obtain ⟨⟨l0, l1, l2, l3, l4, l5⟩, _⟩ := cells_six HPw.out
    obtain ⟨⟨r0, r1, r2, r3, r4, r5⟩, z0, z1, z2, z3, z4, z5⟩ := cells_six HRw.out
    have hltr : w.heap.size + 1 < wr.heap.size := by omega
    have HQE := Lib.hid (show IsQ w.heap.size wr (.slice fa' fr.length fc') (.slice ca' k cc') ⟨b, z, fr, av, la, ch⟩ E from
     ⟨HFw.out, ⟨HH.out.len, by have h := HE.out; rw [HCN.out] at h ⊢; exact h, fun i d c hd hc => (HH.out.own i d c (by rw [HCN.out]; exact (List.getElem?_eq_some_iff.1 hc).1) hd hc).base (by have := hlt1; omega)⟩, fun i d p hd hp hF => by
      have hi : i < ch.length := by rw [← HH.out.len]; exact (List.getElem?_eq_some_iff.1 hd).1
      have h1 := (HH.out.own i d _ (by rw [HCN.out]; exact hi) hd (List.getElem?_eq_getElem hi)).lt p hp
      have h2 := HFB.out p hF
      omega⟩)
    clear HE HH
    go_wp2
    refine bodyPost_ret (v := .agg #[.int .i64 b, .int .i64 z, (.slice fa' fr.length fc'), .int .u16 (av : Nat), .int .u16 (la : Nat), (.slice ca' k cc')]) (by simp [results, Tryz.results55, go_sem, r0, r1, r2, r3, r4, r5]) rfl ⟨_, _, E, rfl, ?_, ?_⟩
    · exact six_q HQE.out HRw.out tqI tqC _ _ _ _ _ _
    · exact six_below HBw.out (by omega) _ _ _ _ _ _
end Go.Proofs.YtnmekbbnglkmcaaGreat
namespace Go.Proofs.YtnmekbbnglkmcaaGreat
open Go.RowKit Go.Lib
theorem flat_take {L : List QCh} {k : Nat} {c : QCh} (h : L[k]? = some c) : flat (L.take (k + 1)) = flat (L.take k) ++ c.ds := by
 obtain ⟨hk, hc⟩ := List.getElem?_eq_some_iff.1 h
 rw [List.take_succ_eq_append_getElem hk, flat_append, hc]
 simp [flat]
theorem ints_one (l : List Int) : ∀ u ∈ l.map (Value.int .i64), u.oneCell' = true := by
 intro u hu
 obtain ⟨z, _, rfl⟩ := List.mem_map.1 hu
 rfl
set_option maxHeartbeats 4000000 in
set_option maxRecDepth 100000 in
theorem queCheck_any (q : QQ) (N : Nat) (F C : Value) (D : List Value) (w : World) (hq : IsQ 0 w F C q D) (hg : GoodQ q N) :
 Calls Tryz.prog 15 #[.agg #[.int .i64 q.base, .int .i64 q.size, F, .int .u16 (q.avail : Nat), .int .u16 (q.last : Nat), C]] w fun e w' => e = .returned (.bool true) ∧ Below w.heap.size w w' := by
 obtain ⟨few1, few2, few3, few4, few5⟩ := hg.few
 have HQ := Lib.hid hq
 have HG := Lib.hid hg
 obtain ⟨fa, fn, fc, ca, cn, cc, rfl, rfl, hfn, hcn, _, _, hcn2, hcm⟩ := hq.shape
 obtain ⟨b, z, fr, av, la, ch⟩ := q
 have hzN := hg.size
 have hb0 := hg.base
 simp only at *
 subst hzN
 obtain ⟨i0, hi, hz0, hz1, hz2⟩ := info_parts infoI
 have hsz := sizeN_le N
 obtain ⟨sz, hs⟩ : ∃ s : Nat, s = sizeN N := ⟨_, rfl⟩
 have HSZ := Lib.hid (show sizeZ (N : Nat) = (sz : Nat) by rw [sizeZ_of hg.right, hs])
 have hd : (((sz : Nat) : Int) == 0) = false := by rw [beq_eq_false_iff_ne]; omega
 have hd0 : (sz == 0) = false := by rw [beq_eq_false_iff_ne]; omega
 have hd1 : decide (b < 0) = false := decide_eq_false (by omega)
 have HFN := Lib.hid hfn
 have HCN := Lib.hid hcn
 have hcn16 : cn ≤ 16 := by omega
 have HB0 := Lib.hid ((Below.refl w.heap.size w).alloc (Nat.le_refl _) (.cells #[.int .i64 b, .int .i64 (N : Nat), (.slice fa fn fc), .int .u16 (av : Nat), .int .u16 (la : Nat), (.slice ca cn cc)] 30))
 have HP := Lib.hid (heap_alloc_new w (.cells #[.int .i64 b, .int .i64 (N : Nat), (.slice fa fn fc), .int .u16 (av : Nat), .int .u16 (la : Nat), (.slice ca cn cc)] 30))
 have HFL := Lib.hid (show fr.length ≤ 1000 by omega)
 have HN16 := Lib.hid few3
 have HS0 := Lib.hid (show (w.alloc (.cells #[.int .i64 b, .int .i64 (N : Nat), (.slice fa fn fc), .int .u16 (av : Nat), .int .u16 (la : Nat), (.slice ca cn cc)] 30)).heap.size = w.heap.size + 1 by simp)
 clear hq hg few1 few2 few3 few4 few5 hfn hcn hs hsz hb0
 go_enter Tryz.func15, Tryz.ntmps15
 go_wp2_with fail
 refine (size_any _ _ HSZ.out _).mono ?_
 rintro e w1 ⟨rfl, hb⟩
 replace HP := Lib.hid (row_keep HP.out hb)
 replace HB0 := Lib.hid (HB0.out.trans (hb.mono HB0.out.size))
 have HS1 := Lib.hid (show w.heap.size + 1 ≤ w1.heap.size by have := hb.size; rw [HS0.out] at this; exact this)
 obtain ⟨⟨l0, l1, l2, l3, l4, l5⟩, _⟩ := cells_six HP.out
 clear hb
 go_wp2_with fail
 refine (isSorted_any _ _ _ (HQ.out.free.below HB0.out) HFL.out HG.out.sorted).mono ?_
 rintro e w2 ⟨rfl, hb⟩
 replace HP := Lib.hid (row_keep HP.out hb)
 replace HB0 := Lib.hid (HB0.out.trans (hb.mono HB0.out.size))
 replace HS1 := Lib.hid (Nat.le_trans HS1.out hb.size)
 clear hb l0 l1 l2 l3 l4 l5 hd hd0 hd1
 obtain ⟨⟨l0, l1, l2, l3, l4, l5⟩, _⟩ := cells_six HP.out
 go_wp2_with fail
 refine (cloneI_any _ _ _ (HQ.out.free.below HB0.out) HFL.out).mono ?_
 rintro e w3 ⟨r, rfl, hr, hb⟩
 replace HP := Lib.hid (row_keep HP.out hb)
 replace HB0 := Lib.hid (HB0.out.trans (hb.mono HB0.out.size))
 have HR := Lib.hid (hr.base HS1.out)
 replace HS1 := Lib.hid (Nat.le_trans HS1.out hb.size)
 clear hb hr l0 l1 l2 l3 l4 l5
 obtain ⟨⟨l0, l1, l2, l3, l4, l5⟩, _⟩ := cells_six HP.out
 obtain ⟨ra, rc, rfl, p1, p2⟩ := HR.out.shape
 clear p1 p2
 go_wp2
 clear l0 l1 l2 l3 l4 l5
 go_loopw [3, 27] (fun v i wr => ∃ (k : Nat) (va : Option Addr) (vn vc : Nat), k ≤ cn ∧ i = .int .i64 k ∧ v = .slice va vn vc ∧ OwnI (w.heap.size + 1) wr (.slice va vn vc) (fr ++ flat (ch.take k)) ∧ wr.heap[w.heap.size]? = some (.cells #[.int .i64 b, .int .i64 (N : Nat), (.slice fa fn fc), .int .u16 (av : Nat), .int .u16 (la : Nat), (.slice ca cn cc)] 30 (0, 0)) ∧ w.heap.size + 1 ≤ wr.heap.size ∧ Below w.heap.size w wr) (fun _ i _ => cn - (intOf i).toNat)
 case atStart => exact ⟨0, _, _, _, Nat.zero_le _, rfl, rfl, by simpa [flat] using HR.out, HP.out, HS1.out, HB0.out⟩
 case round =>
  obtain ⟨k, va, vn, vc, hk, rfl, rfl, hO, hP, hsz, hbw⟩ := hrel
  have HO := Lib.hid hO
  have HPw := Lib.hid hP
  have HBw := Lib.hid hbw
  have HSz := Lib.hid hsz
  clear hO hP hbw hsz
  by_cases hlt : k < cn
  · obtain ⟨g, cur, rfl, p1, p2, hh, p3, p4, p5⟩ := (HQ.out.chains.below HBw.out).lie (by rw [← HCN.out]; exact Nat.lt_of_le_of_lt (Nat.zero_le _) hlt)
    clear p1 p2 p3 p4 p5
    obtain ⟨c, d, hc, hdd, g0, g1, g2, hdo⟩ := (HQ.out.chains.below HBw.out).at k (by rw [← HCN.out]; exact hlt)
    obtain ⟨da, dc, rfl, hds, hdm⟩ := hdo.shape
    obtain ⟨k1, k2, k3, k4⟩ := HG.out.chain c (List.mem_of_getElem? hc)
    have HK1 := Lib.hid k1
    have HK2 := Lib.hid k2
    have HK3 := Lib.hid k3
    have HK4 := Lib.hid k4
    have HDO := Lib.hid hdo
    have HCK := Lib.hid hc
    have HDL := Lib.hid (show c.ds.length ≤ 16 from Nat.le_trans (HG.out.few.2.2.2.2 c (List.mem_of_getElem? hc)) HN16.out)
    obtain ⟨ch0, cds, crm⟩ := c
    simp only at *
    have HBX := Lib.hid ((Below.refl wr.heap.size wr).alloc (Nat.le_refl _) (.cells #[.int .i64 ch0, .slice da cds.length dc, .int .i64 crm] 76))
    have HBC := Lib.hid (heap_alloc_new wr (.cells #[.int .i64 ch0, .slice da cds.length dc, .int .i64 crm] 76))
    obtain ⟨⟨b0, b1, b2⟩, _⟩ := cells_three HBC.out
    have hlen : 0 ≤ (k : Int) ∧ (k : Int) < (cn : Int) := by omega
    obtain ⟨hl0, hl1⟩ := hlen
    clear hh hdd hdo hds hdm hc k1 k2 k3 k4
    go_wp2_with fail
    refine (chainChecks_in _ ⟨ch0, cds, crm⟩ _ (HDO.out.below HBX.out) HK1.out HK2.out HK3.out HK4.out).mono ?_
    rintro e w4 ⟨rfl, hb⟩
    have HB4 := Lib.hid (HBX.out.trans (hb.mono HBX.out.size))
    have HD4 := Lib.hid (held_of_owns (HDO.out.below HB4.out))
    have HO4 := Lib.hid (HO.out.below HB4.out)
    have HC4 := Lib.hid (row_keep HBC.out hb)
    have HTT := Lib.hid (show (fr ++ flat (ch.take k)).length ≤ 1000 ∧ w.heap.size + 1 ≤ w4.heap.size by
     refine ⟨?_, Nat.le_trans HSz.out HB4.out.size⟩
     have h1 := HG.out.sum
     simp only at h1
     have h2 : (flat (ch.take k)).length ≤ (flat ch).length := by
      have h3 : flat ch = flat (ch.take k) ++ flat (ch.drop k) := by rw [← flat_append, List.take_append_drop]
      rw [h3, List.length_append]; omega
     have h4 := HN16.out
     rw [List.length_append]
     omega)
    clear hb b0 b1 b2 g0 g1 g2
    obtain ⟨⟨b0, b1, b2⟩, _⟩ := cells_three HC4.out
    go_wp2_with (at_builtin; refine wpList_append_held _ rfl _ _ 22 rfl (w.heap.size + 1) 3 i0 (.int .i64 0) 1 8 Tryz.underlying22 hi hz0 hz1 hz2 rfl (by decide) _ _ _ rfl HO4.out _ _ _ rfl HD4.out (by simp) (ints_one _) (by have := HTT.out.1; have := HDL.out; unfold maxLen; omega) (by have := HTT.out.1; have := HDL.out; omega) HTT.out.2 ?_; intro v' w5 hown5 hgrow5; obtain ⟨n5, hn5⟩ : ∃ n, n = (fr ++ flat (ch.take k)).length + cds.length := ⟨_, rfl⟩; rw [← hn5] at hown5; have HN5 := Lib.hid hn5; clear hn5; obtain ⟨va5, vc5, rfl, q1, q2⟩ := owns_slice hown5; clear q1 q2)
    go_roundw
    case rel =>
     have hb5 : Below (w.heap.size + 1) w4 w5 := (Below.refl _ _).grown hgrow5 HTT.out.2 (fun j hj => (HO4.out.lt j hj).1)
     refine ⟨k + 1, _, _, _, by omega, by go_num, rfl, ?_, ?_, Nat.le_trans HTT.out.2 hgrow5.size, HBw.out.trans ((HB4.out.mono HBw.out.size).trans (hb5.mono (by omega)))⟩
     · rw [flat_take HCK.out, ← List.append_assoc]
       unfold OwnI
       rw [List.map_append, List.length_append, ← HN5.out]
       exact hown5
     · exact (hb5.block _ (by omega)).trans (row_keep HPw.out HB4.out)
    case measure => simp [intOf]; omega
  · obtain rfl : k = cn := by omega
    have HO2 := Lib.hid (show OwnI (w.heap.size + 1) wr (.slice va vn vc) (fr ++ flat ch) by
     have h := HO.out
     rw [List.take_of_length_le (by rw [← HCN.out]; exact Nat.le_refl _)] at h
     exact h)
    have hne : fr ++ flat ch ≠ [] := by
     intro e0
     have h1 := HG.out.sum
     have h2 := HG.out.few.2.2.2.1
     have h3 : (fr ++ flat ch).length = 0 := by rw [e0]; rfl
     rw [List.length_append] at h3
     simp only at h1
     omega
    have hll : (fr ++ flat ch).length ≤ 1000 := by
     have h1 := HG.out.sum
     have h4 := HN16.out
     simp only at h1
     rw [List.length_append]
     omega
    obtain ⟨g, cur, rfl, hgb, hgl, hgr, p3, p4, p5⟩ := HO2.out.lie hne
    have HLL := Lib.hid hll
    have HGB := Lib.hid hgb
    have HSE := Lib.hid (sort_eq HG.out.perm (upN_sorted N))
    clear hne hll hgb hgl hgr HO p3 p4 p5
    go_wp2_with fail
    refine (sort_any _ _ _ _ _ HO2.out HLL.out).mono ?_
    rintro e w4 ⟨rfl, hO4, hT⟩
    have hO4 := (show (fr ++ flat ch).mergeSort (fun x y => decide (x ≤ y)) = upN N from HSE.out) ▸ hO4
    have HO4 := Lib.hid hO4
    have hB4 := hT.below (w.heap.size + 1) HGB.out HSz.out
    have HB4 := Lib.hid (HBw.out.trans (hB4.mono (by omega)))
    have HP4 := Lib.hid ((hB4.block w.heap.size (by omega)).trans HPw.out)
    obtain ⟨⟨l0, l1, l2, l3, l4, l5⟩, _⟩ := cells_six HP4.out
    clear hO4 hT hB4
    go_wp2_with fail
    refine (upTo_any N (by have := HN16.out; omega) _).mono ?_
    rintro e w5 ⟨r5, rfl, hr5, hb5⟩
    have HR5 := Lib.hid hr5
    have HB5 := Lib.hid (HB4.out.trans (hb5.mono HB4.out.size))
    have HO5 := Lib.hid (HO4.out.below hb5)
    clear hr5 hb5 l0 l1 l2 l3 l4 l5
    go_wp2_with fail
    refine (equalI_any _ _ _ _ HO5.out HR5.out (by rw [upN_length]; have := HN16.out; omega)).mono ?_
    rintro e w6 ⟨rfl, hb6⟩
    have HB6 := Lib.hid (HB5.out.trans (hb6.mono HB5.out.size))
    clear hb6
    go_wp2
    go_ret
    exact ⟨rfl, HB6.out⟩
end Go.Proofs.YtnmekbbnglkmcaaGreat
namespace Go.Proofs.YtnmekbbnglkmcaaGreat
open Go.RowKit Go.Lib
theorem tmU : (26 : Nat) ≠ 5 := by decide
theorem run_zerosK (k : Nat) (hk : k ≤ 8192) (W : World) : (Instr.makeSlice 24 (.int .i64 (k : Nat)) (.int .i64 (k : Nat))).run Tryz.prog W = .ok (.slice (some ⟨W.heap.size, 0, none⟩) k k) (W.alloc (.cells (madeCells #[.int .u8 0] k) 5)) := by
 have h := run_make_row' (P := Tryz.prog) 24 5 (.int .u8 0) 1 Tryz.underlying24 info8 rfl .i64 .i64 k (by omega) (by omega) W
 exact h
def OwnB (B : Nat) (W : World) (v : Value) (l : List UInt8) : Prop := W.ownsRow B 5 1 v l.length (byteCells l)
theorem zerosK_own (w : World) (k : Nat) (hk : k ≤ 8192) : OwnB 0 (w.alloc (.cells (madeCells #[.int .u8 0] k) 5)) (.slice (some ⟨w.heap.size, 0, none⟩) k k) (List.replicate k 0) := by
 have h := World.ownsRow_lit (base := 0) (e := 5) (size := 1) w (madeCells #[.int .u8 0] k) k (Nat.zero_le _) (by unfold maxLen; omega) (by simp [madeCells])
 have h1 : (madeCells #[.int .u8 0] k).toList = byteCells (List.replicate k 0) := by rw [made_zeros, zeros_bytes]
 rw [h1] at h
 unfold OwnB
 rw [List.length_replicate]
 exact h
theorem OwnB.below {B : Nat} {w w' : World} {v : Value} {l : List UInt8} (h : OwnB B w v l) (hb : Below w.heap.size w w') : OwnB B w' v l := ownsRow_below h hb
theorem OwnB.base {B B' : Nat} {w : World} {v : Value} {l : List UInt8} (h : OwnB B w v l) (hb : B' ≤ B) : OwnB B' w v l := ownsRow_base h hb
theorem OwnB.arg {B : Nat} {w : World} {v : Value} {l : List UInt8} (h : OwnB B w v l) : IsArg w v l := isArg_of_owns h
theorem OwnB.stay {B g : Nat} {w : World} {v : Value} {l : List UInt8} {cs : Array Value} {t : TypeId} {fr : Nat × Nat} (h : OwnB B w v l) (hg : w.heap[g]? = some (.cells cs t fr)) (hne : (t : Nat) ≠ 5) (j : Nat) (u : Value) : OwnB B (w.setCell ⟨g, j, none⟩ u) v l := owns_stay h hg hne j u
theorem OwnB.shape {B : Nat} {w : World} {v : Value} {l : List UInt8} (h : OwnB B w v l) : ∃ a c, v = .slice a l.length c ∧ l.length ≤ c ∧ c ≤ maxLen := owns_slice h
def zeroM (l : List UInt8) (B N : Nat) : List UInt8 := l.take B ++ List.replicate (sizeN N) 0 ++ l.drop (B + sizeN N)
theorem zeroM_put {l : List UInt8} {B N : Nat} (h : RingOk l.length B N) : faultOf l.length (B : Nat) ((List.replicate (sizeN N) (0 : UInt8)).length : Nat) = 0 ∧ putOf l (B : Nat) (List.replicate (sizeN N) 0) = zeroM l B N := by
 have h1 := h.fits
 have h2 := h.few
 have e : faultOf l.length (B : Nat) ((List.replicate (sizeN N) (0 : UInt8)).length : Nat) = 0 := by
  rw [List.length_replicate]
  exact fault_of h2 (by omega) (by omega) (by omega) (by omega)
 refine ⟨e, ?_⟩
 rw [putOf_some e, zeroM, Int.toNat_natCast, List.length_replicate]
theorem zeroM_length {l : List UInt8} {B N : Nat} (h : RingOk l.length B N) : (zeroM l B N).length = l.length := by
 have h1 := h.fits
 simp [zeroM]
 omega
theorem three_boxes (w : World) (cs ds es : Array Value) (s t q : TypeId) : (((w.alloc (.cells cs s)).alloc (.cells ds t)).alloc (.cells es q)).heap[w.heap.size]? = some (.cells cs s (0, 0)) ∧ (((w.alloc (.cells cs s)).alloc (.cells ds t)).alloc (.cells es q)).heap[w.heap.size + 1]? = some (.cells ds t (0, 0)) ∧ (((w.alloc (.cells cs s)).alloc (.cells ds t)).alloc (.cells es q)).heap[w.heap.size + 2]? = some (.cells es q (0, 0)) ∧ Below w.heap.size w (((w.alloc (.cells cs s)).alloc (.cells ds t)).alloc (.cells es q)) := by
 refine ⟨row_new (row_new (heap_alloc_new w _) _) _, row_new (by simpa using heap_alloc_new (w.alloc (.cells cs s)) (.cells ds t)) _, by simpa using heap_alloc_new ((w.alloc (.cells cs s)).alloc (.cells ds t)) (.cells es q), (((Below.refl _ _).alloc (Nat.le_refl _) _).alloc (by simp) _).alloc (by simp; omega) _⟩
structure QueNewA where
 (b0 b1 b2 b3 b4 b5 b6 b7 b8 b9 : Bool)
 (s18 s19 s20 s21 s22 s23 s17 s24 s25 : Value)
structure QueNewB where
 (b0 b1 b2 b3 b4 b5 b6 b7 b8 : Bool)
 (s26 s27 s28 s29 s30 s31 s8 : Value)
set_option maxHeartbeats 4000000 in
set_option maxRecDepth 100000 in
theorem queNew_any (v : Value) (l : List UInt8) (B N : Nat) (w : World) (hv : OwnB 0 w v l) (hok : RingOk l.length B N) :
 Calls Tryz.prog 7 #[.agg #[v], .int .i64 (B : Nat), .int .i64 (N : Nat)] w fun e w' => ∃ ra rc F C, e = .returned (.tuple #[.agg #[.slice ra l.length rc], .agg #[.int .i64 (B : Nat), .int .i64 (N : Nat), F, .int .u16 (0 : Nat), .int .u16 (0 : Nat), C], .int .i64 0]) ∧ OwnB w.heap.size w' (.slice ra l.length rc) (zeroM l B N) ∧ IsQ w.heap.size w' F C (newQ B N) [] ∧ Below w.heap.size w w' := by
 have hl := zeroM_length hok
 obtain ⟨z1, z2⟩ := zeroM_put hok
 obtain ⟨l2, hl2⟩ : ∃ l2, l2 = zeroM l B N := ⟨_, rfl⟩
 rw [← hl2] at hl z2 ⊢
 obtain ⟨va, vc, rfl, hv1, hv2⟩ := hv.shape
 obtain ⟨L, hL⟩ : ∃ L, L = l.length := ⟨_, rfl⟩
 have hszle := sizeN_le N
 have hN := hok.right.le
 obtain ⟨sz, hsz⟩ : ∃ s, s = sizeN N := ⟨_, rfl⟩
 have HSB := Lib.hid (show sz ≤ 8192 by omega)
 have HSI := Lib.hid (show ∀ W, Calls Tryz.prog 22 #[.int .i64 (N : Nat)] W fun e w' => e = .returned (.int .i64 (sz : Nat)) ∧ Below W.heap.size W w' from fun W => size_any _ _ (by rw [sizeZ_of hok.right, hsz]) W)
 have HUP := Lib.hid (show ∀ W, Calls Tryz.prog 23 #[.int .i64 (N : Nat)] W fun e w' => ∃ r, e = .returned r ∧ OwnI W.heap.size w' r (upN N) ∧ Below W.heap.size W w' from fun W => upTo_any N (by omega) W)
 rw [← hL] at hv hl ⊢
 rw [← hsz] at z1 z2
 have HPU := Lib.hid (show ∀ W, Below w.heap.size w W → OwnB 0 W (.slice va L vc) l → ∀ u, OwnB 0 W u (List.replicate sz 0) → Calls Tryz.prog 21 #[.agg #[.slice va L vc], .int .i64 (B : Nat), u] W fun e w' => ∃ ra rc, e = .returned (.tuple #[.agg #[.slice ra L rc], .int .i64 0]) ∧ OwnB w.heap.size w' (.slice ra L rc) l2 ∧ Below W.heap.size W w' from fun W hb ho u hu =>
  (put_any _ l u (List.replicate sz 0) W ho.arg hu.arg (B : Nat) (by have := hok.few; omega) (by rw [List.length_replicate]; have := HSB.out; omega)).mono fun e w' ⟨r, h1, h2, h3⟩ => by
   rw [z1] at h1
   rw [z2] at h2
   obtain ⟨a, c, h4, h5, h6⟩ := owns_slice h2
   rw [hl] at h4
   subst h4
   exact ⟨a, c, h1, ownsRow_base h2 hb.size, h3⟩)
 obtain ⟨t0, t1, t2, t3⟩ := three_boxes w #[.slice va L vc] #[.slice none 0 0] #[.int .i64 0, .int .i64 0, .slice none 0 0, .int .u16 0, .int .u16 0, .slice none 0 0] 26 26 30
 have HM := Lib.hid t0
 have HA := Lib.hid t1
 have HQ := Lib.hid t2
 have HB := Lib.hid t3
 have HO := Lib.hid (hv.below t3)
 have HMX := Lib.hid (show L ≤ maxLen by omega)
 have HCK := Lib.hid (show okR L (B : Nat) (N : Nat) = true by rw [hL]; exact hok.ok)
 have HL2 := Lib.hid hl
 clear hv hv1 hv2 hok hl z1 z2 hl2 hL hszle hN hsz t0 t1 t2 t3
 go_enter Tryz.func7, Tryz.ntmps7
 go_wp2_with fail
 refine (ringCheck_any _ _ _ HMX.out _ _ _ HCK.out _).mono ?_
 rintro e w1 ⟨rfl, hb⟩
 replace HM := Lib.hid (row_keep HM.out hb)
 replace HA := Lib.hid (row_keep HA.out hb)
 replace HQ := Lib.hid (row_keep HQ.out hb)
 replace HO := Lib.hid (HO.out.below hb)
 replace HB := Lib.hid (HB.out.trans (hb.mono HB.out.size))
 clear hb
 go_wp2_with fail
 refine wp_region_rec (X := QueNewA) (by kernel_rfl) (by kernel_rfl) (fun x => #[x.b0, x.b1, x.b2, x.b3, x.b4, x.b5, x.b6, x.b7, x.b8, x.b9]) (fun x => { tmps := #[.agg #[.slice va L vc], .int .i64 (B : Nat), .int .i64 (N : Nat), .pointer (some ⟨w.heap.size, 0, none⟩), undef, undef, .pointer (some ⟨w.heap.size + 1, 0, none⟩), .pointer (some ⟨w.heap.size + 1 + 1, 0, none⟩), .int .i64 0, .agg #[.slice va L vc], .int .i64 (B : Nat), .int .i64 (N : Nat), .bool true, .bool false, undef, undef, undef, x.s17, x.s18, x.s19, x.s20, x.s21, x.s22, x.s23, x.s24, x.s25, undef, undef, undef, undef, undef, undef], defers := [] }) (fun x W => (x.b0 = true → x.s18 = .agg #[.slice va L vc]) ∧ (x.b1 = true → x.s19 = .int .i64 (B : Nat)) ∧ (x.b2 = true → x.s20 = .int .i64 (N : Nat)) ∧ (x.b3 = true → x.s21 = .int .i64 (sz : Nat)) ∧ (x.b6 = true → x.s17 = x.s23) ∧ (x.b8 = true → x.s25 = .int .i64 0) ∧ (x.b9 = true → x.b0 = true ∧ x.b3 = true ∧ x.b4 = true ∧ x.b5 = true) ∧ (x.b6 = true → x.b3 = true ∧ x.b4 = true ∧ x.b5 = true) ∧ (x.b4 = true → x.b3 = true) ∧ (x.b5 = true → x.b3 = true ∧ x.b4 = true) ∧ (x.b7 = true → x.b3 = true ∧ x.b4 = true ∧ x.b5 = true) ∧ (x.b9 = false → W.heap[w.heap.size]? = some (.cells #[.slice va L vc] 26 (0, 0))) ∧ (W.heap[w.heap.size + 1]? = some (.cells #[.slice none 0 0] 26 (0, 0))) ∧ (W.heap[w.heap.size + 1 + 1]? = some (.cells #[.int .i64 0, .int .i64 0, .slice none 0 0, .int .u16 0, .int .u16 0, .slice none 0 0] 30 (0, 0))) ∧ (Below w.heap.size w W) ∧ (OwnB 0 W (.slice va L vc) l) ∧ (x.b4 = true → ∃ gz, x.s22 = .slice (some ⟨gz, 0, none⟩) sz sz ∧ OwnB 0 W (.slice (some ⟨gz, 0, none⟩) sz sz) (List.replicate sz 0)) ∧ (x.b5 = true → ∃ ra rc, x.s23 = .tuple #[.agg #[.slice ra L rc], .int .i64 0] ∧ OwnB w.heap.size W (.slice ra L rc) l2) ∧ (x.b7 = true → ∃ ra rc, x.s24 = .agg #[.slice ra L rc] ∧ OwnB w.heap.size W (.slice ra L rc) l2) ∧ (x.b9 = true → ∃ ra rc, W.heap[w.heap.size]? = some (.cells #[.slice ra L rc] 26 (0, 0)) ∧ OwnB w.heap.size W (.slice ra L rc) l2)) ⟨false, false, false, false, false, false, false, false, false, false, undef, undef, undef, undef, undef, undef, undef, undef, undef⟩ rfl rfl ⟨(fun h => by cases h), (fun h => by cases h), (fun h => by cases h), (fun h => by cases h), (fun h => by cases h), (fun h => by cases h), (fun h => by cases h), (fun h => by cases h), (fun h => by cases h), (fun h => by cases h), (fun h => by cases h), (fun _ => HM.out), HA.out, HQ.out, HB.out.drew, HO.out, (fun h => by cases h), (fun h => by cases h), (fun h => by cases h), (fun h => by cases h)⟩ (fun _ => rfl) ?hstep ?hdone
 case hstep =>
  rintro ⟨b0, b1, b2, b3, b4, b5, b6, b7, b8, b9, s18, s19, s20, s21, s22, s23, s17, s24, s25⟩ W hI i hi
  dsimp only at hI hi ⊢
  have HI := Lib.hid hI
  clear hI
  rw [Region.ready, List.mem_filter, List.mem_range] at hi
  obtain ⟨hlt, hp⟩ := hi
  have hi7 : i = 0 ∨ i = 1 ∨ i = 2 ∨ i = 3 ∨ i = 4 ∨ i = 5 ∨ i = 6 ∨ i = 7 ∨ i = 8 ∨ i = 9 := by simp at hlt; omega
  clear hlt
  rcases hi7 with rfl | rfl | rfl | rfl | rfl | rfl | rfl | rfl | rfl | rfl
  all_goals simp [Region.binds] at hp
  · obtain rfl : b0 = false := by revert hp; cases b0 <;> simp
    clear hp
    refine inv_op (o := ⟨some 18, _, _, _, _, _⟩) rfl (fun K' hK' => ?_)
    have gi9 := HI.out.2.2.2.2.2.2.1
    have rM0 := HI.out.2.2.2.2.2.2.2.2.2.2.2.1
    have hbf9 : b9 = false := by cases b9 with | false => rfl | true => exact absurd ((gi9 rfl).1) (by decide)
    subst hbf9
    obtain ⟨hc0, _⟩ := at_cell (rM0 rfl) 0 _ rfl
    go_simp
    obtain ⟨h0, h1, h2, h3, h6, h8, gi9, gi6, gi4, gi5, gi7, rM0, rA, rQ, gB, gO, gZ, gP, gX, gS⟩ := HI.out
    exact hK'.out _ _ ⟨.mk .., rfl, rfl, (fun _ => rfl), h1, h2, h3, h6, h8, (fun e => by cases e), gi6, gi4, gi5, gi7, rM0, rA, rQ, gB, gO, gZ, gP, gX, (fun e => by cases e)⟩
  · obtain rfl : b1 = false := by revert hp; cases b1 <;> simp
    clear hp
    refine inv_op (o := ⟨some 19, _, _, _, _, _⟩) rfl (fun K' hK' => ?_)
    go_simp
    exact hK'.out _ _ ⟨.mk .., rfl, rfl, Nxt (Upd (fun _ => rfl)) HI.out⟩
  · obtain rfl : b2 = false := by revert hp; cases b2 <;> simp
    clear hp
    refine inv_op (o := ⟨some 20, _, _, _, _, _⟩) rfl (fun K' hK' => ?_)
    go_simp
    exact hK'.out _ _ ⟨.mk .., rfl, rfl, Nxt (Nxt (Upd (fun _ => rfl))) HI.out⟩
  · obtain ⟨rfl, e2⟩ : b3 = false ∧ b2 = true := by revert hp; cases b3 <;> cases b2 <;> simp
    clear hp
    obtain rfl := (HI.out.2.2.1) e2
    refine inv_op (o := ⟨some 21, _, _, _, _, _⟩) rfl (fun K' hK' => ?_)
    have gi9 := HI.out.2.2.2.2.2.2.1
    have gi6 := HI.out.2.2.2.2.2.2.2.1
    have gi4 := HI.out.2.2.2.2.2.2.2.2.1
    have gi5 := HI.out.2.2.2.2.2.2.2.2.2.1
    have gi7 := HI.out.2.2.2.2.2.2.2.2.2.2.1
    have hbf9 : b9 = false := by cases b9 with | false => rfl | true => exact absurd ((gi9 rfl).2.1) (by decide)
    subst hbf9
    have hbf6 : b6 = false := by cases b6 with | false => rfl | true => exact absurd ((gi6 rfl).1) (by decide)
    subst hbf6
    have hbf4 : b4 = false := by cases b4 with | false => rfl | true => exact absurd ((gi4 rfl)) (by decide)
    subst hbf4
    have hbf5 : b5 = false := by cases b5 with | false => rfl | true => exact absurd ((gi5 rfl).1) (by decide)
    subst hbf5
    have hbf7 : b7 = false := by cases b7 with | false => rfl | true => exact absurd ((gi7 rfl).1) (by decide)
    subst hbf7
    go_simp
    refine (HSI.out W).mono ?_
    rintro e w2 ⟨rfl, bn⟩
    obtain ⟨h0, h1, h2, h3, h6, h8, gi9, gi6, gi4, gi5, gi7, rM0, rA, rQ, gB, gO, gZ, gP, gX, gS⟩ := HI.out
    exact hK'.out _ _ ⟨.mk .., rfl, rfl, h0, h1, h2, (fun _ => rfl), h6, h8, (fun e => by cases e), (fun e => by cases e), (fun e => by cases e), (fun e => by cases e), (fun e => by cases e), (fun e => row_keep (rM0 e) bn), (row_keep rA bn), (row_keep rQ bn), (gB.trans (bn.mono gB.size)), (gO.below bn), (fun e => by cases e), (fun e => by cases e), (fun e => by cases e), (fun e => by cases e)⟩
  · obtain ⟨rfl, e3⟩ : b4 = false ∧ b3 = true := by revert hp; cases b4 <;> cases b3 <;> simp
    clear hp
    obtain rfl := (HI.out.2.2.2.1) e3
    refine inv_op (o := ⟨some 22, _, _, _, _, _⟩) rfl (fun K' hK' => ?_)
    have gi9 := HI.out.2.2.2.2.2.2.1
    have gi6 := HI.out.2.2.2.2.2.2.2.1
    have gi5 := HI.out.2.2.2.2.2.2.2.2.2.1
    have gi7 := HI.out.2.2.2.2.2.2.2.2.2.2.1
    have hbf9 : b9 = false := by cases b9 with | false => rfl | true => exact absurd ((gi9 rfl).2.2.1) (by decide)
    subst hbf9
    have hbf6 : b6 = false := by cases b6 with | false => rfl | true => exact absurd ((gi6 rfl).2.1) (by decide)
    subst hbf6
    have hbf5 : b5 = false := by cases b5 with | false => rfl | true => exact absurd ((gi5 rfl).2) (by decide)
    subst hbf5
    have hbf7 : b7 = false := by cases b7 with | false => rfl | true => exact absurd ((gi7 rfl).2.1) (by decide)
    subst hbf7
    have hmk := run_zerosK sz HSB.out
    have hzz := zerosK_own W sz HSB.out
    have bn : Below W.heap.size W (W.alloc (.cells (madeCells #[.int .u8 0] sz) 5)) := (Below.refl _ _).alloc (Nat.le_refl _) _
    go_simp
    obtain ⟨h0, h1, h2, h3, h6, h8, gi9, gi6, gi4, gi5, gi7, rM0, rA, rQ, gB, gO, gZ, gP, gX, gS⟩ := HI.out
    exact hK'.out _ _ ⟨.mk .., rfl, rfl, h0, h1, h2, h3, h6, h8, (fun e => by cases e), (fun e => by cases e), (fun _ => e3), (fun e => by cases e), (fun e => by cases e), (fun e => row_keep (rM0 e) bn), (row_keep rA bn), (row_keep rQ bn), (gB.trans (bn.mono gB.size)), (gO.below bn), (fun _ => ⟨_, rfl, hzz⟩), (fun e => by cases e), (fun e => by cases e), (fun e => by cases e)⟩
  · have hn5 : b5 = false := by revert hp; cases b5 <;> simp
    have e0 : b0 = true := by revert hp; cases b0 <;> simp
    have e1 : b1 = true := by revert hp; cases b1 <;> simp
    have e4 : b4 = true := by revert hp; cases b4 <;> simp
    have e3 : b3 = true := by revert hp; cases b3 <;> simp
    clear hp
    obtain rfl := (HI.out.1) e0
    obtain rfl := (HI.out.2.1) e1
    subst hn5
    refine inv_op (o := ⟨some 23, _, _, _, _, _⟩) rfl (fun K' hK' => ?_)
    have gi9 := HI.out.2.2.2.2.2.2.1
    have gi6 := HI.out.2.2.2.2.2.2.2.1
    have gi7 := HI.out.2.2.2.2.2.2.2.2.2.2.1
    have gB := HI.out.2.2.2.2.2.2.2.2.2.2.2.2.2.2.1
    have gO := HI.out.2.2.2.2.2.2.2.2.2.2.2.2.2.2.2.1
    have gZ := HI.out.2.2.2.2.2.2.2.2.2.2.2.2.2.2.2.2.1
    have hbf9 : b9 = false := by cases b9 with | false => rfl | true => exact absurd ((gi9 rfl).2.2.2) (by decide)
    subst hbf9
    have hbf6 : b6 = false := by cases b6 with | false => rfl | true => exact absurd ((gi6 rfl).2.2) (by decide)
    subst hbf6
    have hbf7 : b7 = false := by cases b7 with | false => rfl | true => exact absurd ((gi7 rfl).2.2) (by decide)
    subst hbf7
    obtain ⟨gz, rfl, hz⟩ := gZ e4
    go_simp
    refine (HPU.out W gB gO _ hz).mono ?_
    rintro e w2 ⟨ra, rc, rfl, hr, bn⟩
    obtain ⟨h0, h1, h2, h3, h6, h8, gi9, gi6, gi4, gi5, gi7, rM0, rA, rQ, gB, gO, gZ, gP, gX, gS⟩ := HI.out
    exact hK'.out _ _ ⟨.mk .., rfl, rfl, h0, h1, h2, h3, (fun e => by cases ((gi6 e).2.2)), h8, (fun e => by cases e), (fun e => by cases e), gi4, (fun _ => ⟨e3, e4⟩), (fun e => by cases e), (fun e => row_keep (rM0 e) bn), (row_keep rA bn), (row_keep rQ bn), (gB.trans (bn.mono gB.size)), (gO.below bn), (fun _ => ⟨gz, rfl, hz.below bn⟩), (fun _ => ⟨ra, rc, rfl, hr⟩), (fun e => by cases e), (fun e => by cases e)⟩
  · obtain ⟨rfl, e5⟩ : b6 = false ∧ b5 = true := by revert hp; cases b6 <;> cases b5 <;> simp
    clear hp
    refine inv_op (o := ⟨some 17, _, _, _, _, _⟩) rfl (fun K' hK' => ?_)
    go_simp
    obtain ⟨h0, h1, h2, h3, h6, h8, gi9, gi6, gi4, gi5, gi7, rM0, rA, rQ, gB, gO, gZ, gP, gX, gS⟩ := HI.out
    exact hK'.out _ _ ⟨.mk .., rfl, rfl, h0, h1, h2, h3, (fun _ => rfl), h8, gi9, (fun _ => ⟨(gi5 e5).1, (gi5 e5).2, e5⟩), gi4, gi5, gi7, rM0, rA, rQ, gB, gO, gZ, gP, gX, gS⟩
  · obtain ⟨rfl, e6⟩ : b7 = false ∧ b6 = true := by revert hp; cases b7 <;> cases b6 <;> simp
    clear hp
    obtain rfl := (HI.out.2.2.2.2.1) e6
    refine inv_op (o := ⟨some 24, _, _, _, _, _⟩) rfl (fun K' hK' => ?_)
    have gi6 := HI.out.2.2.2.2.2.2.2.1
    have gP := HI.out.2.2.2.2.2.2.2.2.2.2.2.2.2.2.2.2.2.1
    obtain ⟨ra, rc, rfl, hp⟩ := gP ((gi6 e6).2.2)
    go_simp
    obtain ⟨h0, h1, h2, h3, h6, h8, gi9, gi6, gi4, gi5, gi7, rM0, rA, rQ, gB, gO, gZ, gP, gX, gS⟩ := HI.out
    exact hK'.out _ _ ⟨.mk .., rfl, rfl, h0, h1, h2, h3, h6, h8, gi9, gi6, gi4, gi5, (fun _ => ⟨(gi6 e6).1, (gi6 e6).2.1, (gi6 e6).2.2⟩), rM0, rA, rQ, gB, gO, gZ, (fun _ => ⟨ra, rc, rfl, hp⟩), (fun _ => ⟨ra, rc, rfl, hp⟩), gS⟩
  · obtain ⟨rfl, e6⟩ : b8 = false ∧ b6 = true := by revert hp; cases b8 <;> cases b6 <;> simp
    clear hp
    obtain rfl := (HI.out.2.2.2.2.1) e6
    refine inv_op (o := ⟨some 25, _, _, _, _, _⟩) rfl (fun K' hK' => ?_)
    have gi6 := HI.out.2.2.2.2.2.2.2.1
    have gP := HI.out.2.2.2.2.2.2.2.2.2.2.2.2.2.2.2.2.2.1
    obtain ⟨ra, rc, rfl, hp⟩ := gP ((gi6 e6).2.2)
    go_simp
    exact hK'.out _ _ ⟨.mk .., rfl, rfl, Nxt (Nx16 (Upd (fun _ => ⟨ra, rc, rfl, hp⟩))) (Nxt (Nx4 (Upd (fun _ => rfl))) HI.out)⟩
  · have hn9 : b9 = false := by revert hp; cases b9 <;> simp
    have e7 : b7 = true := by revert hp; cases b7 <;> simp
    have e5 : b5 = true := by revert hp; cases b5 <;> simp
    have e0 : b0 = true := by revert hp; cases b0 <;> simp
    have e3 : b3 = true := by revert hp; cases b3 <;> simp
    have e4 : b4 = true := by revert hp; cases b4 <;> simp
    clear hp
    subst hn9
    refine inv_op (o := ⟨none, _, _, _, _, _⟩) rfl (fun K' hK' => ?_)
    have rM0 := HI.out.2.2.2.2.2.2.2.2.2.2.2.1
    have gX := HI.out.2.2.2.2.2.2.2.2.2.2.2.2.2.2.2.2.2.2.1
    obtain ⟨ra, rc, rfl, hx⟩ := gX e7
    obtain ⟨hc0, hz0⟩ := at_cell (rM0 rfl) 0 _ rfl
    have hlt := (Array.getElem?_eq_some_iff.1 (rM0 rfl)).1
    go_simp
    obtain ⟨h0, h1, h2, h3, h6, h8, gi9, gi6, gi4, gi5, gi7, rM0, rA, rQ, gB, gO, gZ, gP, gX, gS⟩ := HI.out
    exact hK'.out _ _ ⟨.mk .., rfl, rfl, h0, h1, h2, h3, h6, h8, (fun _ => ⟨e0, e3, e4, e5⟩), gi6, gi4, gi5, gi7, (fun e => by cases e), (one_other rA ⟨w.heap.size, 0, none⟩ (.slice ra L rc) (by show w.heap.size ≠ w.heap.size + 1; omega)), (one_other rQ ⟨w.heap.size, 0, none⟩ (.slice ra L rc) (blocks_ne rQ (rM0 rfl) (by decide))), (gB.setCell (p := ⟨w.heap.size, 0, none⟩) (Nat.le_refl _) (.slice ra L rc)), (gO.stay (rM0 rfl) tmU 0 (.slice ra L rc)), (fun e => by obtain ⟨y0, h1, h2⟩ := gZ e; exact ⟨y0, h1, (h2.stay (rM0 rfl) (by decide) 0 (.slice ra L rc))⟩), (fun e => by obtain ⟨y0, y1, h1, h2⟩ := gP e; exact ⟨y0, y1, h1, (h2.stay (rM0 rfl) (by decide) 0 (.slice ra L rc))⟩), (fun _ => ⟨ra, rc, rfl, hx.stay (rM0 rfl) tmU _ _⟩), (fun _ => ⟨ra, rc, row_put (rM0 rfl) 0 (.slice ra L rc), hx.stay (rM0 rfl) tmU _ _⟩)⟩
 case hdone =>
  rintro ⟨b0, b1, b2, b3, b4, b5, b6, b7, b8, b9, s18, s19, s20, s21, s22, s23, s17, s24, s25⟩ W hI hall
  dsimp only at hI hall ⊢
  have HI := Lib.hid hI
  clear hI
  obtain rfl : b0 = true := hall 0 (by decide)
  obtain rfl : b1 = true := hall 1 (by decide)
  obtain rfl : b2 = true := hall 2 (by decide)
  obtain rfl : b3 = true := hall 3 (by decide)
  obtain rfl : b4 = true := hall 4 (by decide)
  obtain rfl : b5 = true := hall 5 (by decide)
  obtain rfl : b6 = true := hall 6 (by decide)
  obtain rfl : b7 = true := hall 7 (by decide)
  obtain rfl : b8 = true := hall 8 (by decide)
  obtain rfl : b9 = true := hall 9 (by decide)
  obtain rfl := (HI.out.2.2.2.2.2.1) rfl
  have rA := HI.out.2.2.2.2.2.2.2.2.2.2.2.2.1
  have rQ := HI.out.2.2.2.2.2.2.2.2.2.2.2.2.2.1
  have gB := HI.out.2.2.2.2.2.2.2.2.2.2.2.2.2.2.1
  have gS := HI.out.2.2.2.2.2.2.2.2.2.2.2.2.2.2.2.2.2.2.2
  clear HI hall
  obtain ⟨ra, rc, hrow, hown⟩ := gS rfl
  have HM2 := Lib.hid hrow
  have HO2 := Lib.hid hown
  have HA2 := Lib.hid rA
  have HQ2 := Lib.hid rQ
  have HB2 := Lib.hid gB
  clear hrow hown rA rQ gB gS HSI HPU HM HA HQ HB HO
  obtain ⟨w2, hw2⟩ : ∃ x, x = W := ⟨_, rfl⟩
  subst hw2
  go_wp2_with fail
  refine wp_region_rec (X := QueNewB) (by kernel_rfl) (by kernel_rfl) (fun x => #[x.b0, x.b1, x.b2, x.b3, x.b4, x.b5, x.b6, x.b7, x.b8]) (fun x => { tmps := #[.agg #[.slice va L vc], .int .i64 (B : Nat), .int .i64 (N : Nat), .pointer (some ⟨w.heap.size, 0, none⟩), undef, undef, .pointer (some ⟨w.heap.size + 1, 0, none⟩), .pointer (some ⟨w.heap.size + 1 + 1, 0, none⟩), x.s8, .agg #[.slice va L vc], .int .i64 (B : Nat), .int .i64 (N : Nat), .bool true, .bool false, undef, undef, undef, s17, s18, s19, s20, s21, s22, s23, s24, .int .i64 0, x.s26, x.s27, x.s28, x.s29, x.s30, x.s31], defers := [] }) (fun x W => (x.b0 = true → x.s26 = .agg #[.slice ra L rc]) ∧ (x.b1 = true → x.s27 = .int .i64 (B : Nat)) ∧ (x.b2 = true → x.s28 = .int .i64 (N : Nat)) ∧ (x.b3 = true → x.s29 = .int .i64 (N : Nat)) ∧ (x.b8 = true → x.s8 = .int .i64 0) ∧ (x.b6 = true → x.b4 = true) ∧ (x.b7 = true → x.b4 = true ∧ x.b6 = true) ∧ (x.b5 = true → x.b4 = true) ∧ (W.heap[w.heap.size]? = some (.cells #[.slice ra L rc] 26 (0, 0))) ∧ (x.b6 = false → W.heap[w.heap.size + 1]? = some (.cells #[.slice none 0 0] 26 (0, 0))) ∧ (x.b6 = true → W.heap[w.heap.size + 1]? = some (.cells #[.slice ra L rc] 26 (0, 0))) ∧ (x.b7 = false → W.heap[w.heap.size + 1 + 1]? = some (.cells #[.int .i64 0, .int .i64 0, .slice none 0 0, .int .u16 0, .int .u16 0, .slice none 0 0] 30 (0, 0))) ∧ (Below w.heap.size w W) ∧ (OwnB w.heap.size W (.slice ra L rc) l2) ∧ (x.b4 = true → ∃ fa fc, x.s30 = .slice fa (upN N).length fc ∧ OwnI w.heap.size W (.slice fa (upN N).length fc) (upN N)) ∧ (x.b5 = true → ∃ fa fc, x.s31 = .agg #[.int .i64 (B : Nat), .int .i64 (N : Nat), .slice fa (upN N).length fc, .int .u16 0, .int .u16 0, .slice none 0 0] ∧ OwnI w.heap.size W (.slice fa (upN N).length fc) (upN N)) ∧ (x.b7 = true → ∃ fa fc, W.heap[w.heap.size + 1 + 1]? = some (.cells #[.int .i64 (B : Nat), .int .i64 (N : Nat), .slice fa (upN N).length fc, .int .u16 0, .int .u16 0, .slice none 0 0] 30 (0, 0)) ∧ OwnI w.heap.size W (.slice fa (upN N).length fc) (upN N))) ⟨false, false, false, false, false, false, false, false, false, undef, undef, undef, undef, undef, undef, .int .i64 0⟩ rfl rfl ⟨(fun h => by cases h), (fun h => by cases h), (fun h => by cases h), (fun h => by cases h), (fun h => by cases h), (fun h => by cases h), (fun h => by cases h), (fun h => by cases h), HM2.out, (fun _ => HA2.out), (fun h => by cases h), (fun _ => HQ2.out), HB2.out.drew, HO2.out, (fun h => by cases h), (fun h => by cases h), (fun h => by cases h)⟩ (fun _ => rfl) ?hstep ?hdone
  case hstep =>
   rintro ⟨b0, b1, b2, b3, b4, b5, b6, b7, b8, s26, s27, s28, s29, s30, s31, s8⟩ W hI i hi
   dsimp only at hI hi ⊢
   have HI := Lib.hid hI
   clear hI
   rw [Region.ready, List.mem_filter, List.mem_range] at hi
   obtain ⟨hlt, hp⟩ := hi
   have hi7 : i = 0 ∨ i = 1 ∨ i = 2 ∨ i = 3 ∨ i = 4 ∨ i = 5 ∨ i = 6 ∨ i = 7 ∨ i = 8 := by simp at hlt; omega
   clear hlt
   rcases hi7 with rfl | rfl | rfl | rfl | rfl | rfl | rfl | rfl | rfl
   all_goals simp [Region.binds] at hp
   · obtain rfl : b0 = false := by revert hp; cases b0 <;> simp
     clear hp
     refine inv_op (o := ⟨some 26, _, _, _, _, _⟩) rfl (fun K' hK' => ?_)
     have rM := HI.out.2.2.2.2.2.2.2.2.1
     obtain ⟨hc0, _⟩ := at_cell rM 0 _ rfl
     go_simp
     exact hK'.out _ _ ⟨.mk .., rfl, rfl, (Upd (fun _ => rfl)) HI.out⟩
   · obtain rfl : b1 = false := by revert hp; cases b1 <;> simp
     clear hp
     refine inv_op (o := ⟨some 27, _, _, _, _, _⟩) rfl (fun K' hK' => ?_)
     go_simp
     exact hK'.out _ _ ⟨.mk .., rfl, rfl, Nxt (Upd (fun _ => rfl)) HI.out⟩
   · obtain rfl : b2 = false := by revert hp; cases b2 <;> simp
     clear hp
     refine inv_op (o := ⟨some 28, _, _, _, _, _⟩) rfl (fun K' hK' => ?_)
     go_simp
     exact hK'.out _ _ ⟨.mk .., rfl, rfl, Nxt (Nxt (Upd (fun _ => rfl))) HI.out⟩
   · obtain rfl : b3 = false := by revert hp; cases b3 <;> simp
     clear hp
     refine inv_op (o := ⟨some 29, _, _, _, _, _⟩) rfl (fun K' hK' => ?_)
     go_simp
     exact hK'.out _ _ ⟨.mk .., rfl, rfl, Nxt (Nxt (Nxt (Upd (fun _ => rfl)))) HI.out⟩
   · obtain ⟨rfl, e3⟩ : b4 = false ∧ b3 = true := by revert hp; cases b4 <;> cases b3 <;> simp
     clear hp
     obtain rfl := (HI.out.2.2.2.1) e3
     refine inv_op (o := ⟨some 30, _, _, _, _, _⟩) rfl (fun K' hK' => ?_)
     have gi6 := HI.out.2.2.2.2.2.1
     have gi7 := HI.out.2.2.2.2.2.2.1
     have gi5 := HI.out.2.2.2.2.2.2.2.1
     have hbf6 : b6 = false := by cases b6 with | false => rfl | true => exact absurd ((gi6 rfl)) (by decide)
     subst hbf6
     have hbf7 : b7 = false := by cases b7 with | false => rfl | true => exact absurd ((gi7 rfl).1) (by decide)
     subst hbf7
     have hbf5 : b5 = false := by cases b5 with | false => rfl | true => exact absurd ((gi5 rfl)) (by decide)
     subst hbf5
     go_simp
     refine (HUP.out W).mono ?_
     rintro e w3 ⟨fr, rfl, hr, bn⟩
     obtain ⟨fa, fc, rfl, hl1, hl2⟩ := hr.shape
     obtain ⟨h0, h1, h2, h3, h8, gi6, gi7, gi5, rM, rA0, rA1, rQ0, gB, gO, gU, gV, gS⟩ := HI.out
     exact hK'.out _ _ ⟨.mk .., rfl, rfl, h0, h1, h2, h3, h8, (fun e => by cases e), (fun e => by cases e), (fun e => by cases e), (row_keep rM bn), (fun e => row_keep (rA0 e) bn), (fun e => by cases e), (fun e => row_keep (rQ0 e) bn), (gB.trans (bn.mono gB.size)), (gO.below bn), (fun _ => ⟨fa, fc, rfl, hr.base gB.size⟩), (fun e => by cases e), (fun e => by cases e)⟩
   · have hn5 : b5 = false := by revert hp; cases b5 <;> simp
     have e1 : b1 = true := by revert hp; cases b1 <;> simp
     have e2 : b2 = true := by revert hp; cases b2 <;> simp
     have e4 : b4 = true := by revert hp; cases b4 <;> simp
     clear hp
     obtain rfl := (HI.out.2.1) e1
     obtain rfl := (HI.out.2.2.1) e2
     subst hn5
     refine inv_op (o := ⟨some 31, _, _, _, _, _⟩) rfl (fun K' hK' => ?_)
     have gU := HI.out.2.2.2.2.2.2.2.2.2.2.2.2.2.2.1
     obtain ⟨fa, fc, rfl, hp⟩ := gU e4
     go_simp
     obtain ⟨h0, h1, h2, h3, h8, gi6, gi7, gi5, rM, rA0, rA1, rQ0, gB, gO, gU, gV, gS⟩ := HI.out
     exact hK'.out _ _ ⟨.mk .., rfl, rfl, h0, h1, h2, h3, h8, gi6, gi7, (fun _ => e4), rM, rA0, rA1, rQ0, gB, gO, (fun _ => ⟨fa, fc, rfl, hp⟩), (fun _ => ⟨fa, fc, rfl, hp⟩), gS⟩
   · obtain ⟨rfl, e0, e4⟩ : b6 = false ∧ b0 = true ∧ b4 = true := by revert hp; cases b6 <;> cases b0 <;> cases b4 <;> simp
     clear hp
     obtain rfl := (HI.out.1) e0
     refine inv_op (o := ⟨none, _, _, _, _, _⟩) rfl (fun K' hK' => ?_)
     have gi7 := HI.out.2.2.2.2.2.2.1
     have rA0 := HI.out.2.2.2.2.2.2.2.2.2.1
     have hbf7 : b7 = false := by cases b7 with | false => rfl | true => exact absurd ((gi7 rfl).2) (by decide)
     subst hbf7
     obtain ⟨hc0, hz0⟩ := at_cell (rA0 rfl) 0 _ rfl
     have hlt := (Array.getElem?_eq_some_iff.1 (rA0 rfl)).1
     go_simp
     obtain ⟨h0, h1, h2, h3, h8, gi6, gi7, gi5, rM, rA0, rA1, rQ0, gB, gO, gU, gV, gS⟩ := HI.out
     exact hK'.out _ _ ⟨.mk .., rfl, rfl, h0, h1, h2, h3, h8, (fun _ => e4), (fun e => by cases e), gi5, (one_other rM ⟨w.heap.size + 1, 0, none⟩ (.slice ra L rc) (by show w.heap.size + 1 ≠ w.heap.size; omega)), (fun e => by cases e), (fun _ => (row_put (rA0 rfl) 0 (.slice ra L rc))), (fun e => (one_other (rQ0 e) ⟨w.heap.size + 1, 0, none⟩ (.slice ra L rc) (blocks_ne (rQ0 e) (rA0 rfl) (by decide)))), (gB.setCell (p := ⟨w.heap.size + 1, 0, none⟩) (by show w.heap.size ≤ w.heap.size + 1; omega) (.slice ra L rc)), (gO.stay (rA0 rfl) (by decide) 0 (.slice ra L rc)), (fun e => by obtain ⟨y0, y1, h1, h2⟩ := gU e; exact ⟨y0, y1, h1, (h2.stay (rA0 rfl) (by decide) 0 (.slice ra L rc))⟩), (fun e => by obtain ⟨y0, y1, h1, h2⟩ := gV e; exact ⟨y0, y1, h1, (h2.stay (rA0 rfl) (by decide) 0 (.slice ra L rc))⟩), (fun e => by cases e)⟩
   · have hn7 : b7 = false := by revert hp; cases b7 <;> simp
     have e5 : b5 = true := by revert hp; cases b5 <;> simp
     have e6 : b6 = true := by revert hp; cases b6 <;> simp
     have e4 : b4 = true := by revert hp; cases b4 <;> simp
     clear hp
     subst hn7
     refine inv_op (o := ⟨none, _, _, _, _, _⟩) rfl (fun K' hK' => ?_)
     have rQ0 := HI.out.2.2.2.2.2.2.2.2.2.2.2.1
     have gV := HI.out.2.2.2.2.2.2.2.2.2.2.2.2.2.2.2.1
     obtain ⟨fa, fc, rfl, hp⟩ := gV e5
     obtain ⟨hc0, hz0⟩ := at_cell (rQ0 rfl) 0 _ rfl
     obtain ⟨hc1, hz1⟩ := at_cell (rQ0 rfl) 1 _ rfl
     obtain ⟨hc2, hz2⟩ := at_cell (rQ0 rfl) 2 _ rfl
     obtain ⟨hc3, hz3⟩ := at_cell (rQ0 rfl) 3 _ rfl
     obtain ⟨hc4, hz4⟩ := at_cell (rQ0 rfl) 4 _ rfl
     obtain ⟨hc5, hz5⟩ := at_cell (rQ0 rfl) 5 _ rfl
     have hlt := (Array.getElem?_eq_some_iff.1 (rQ0 rfl)).1
     go_simp
     obtain ⟨h0, h1, h2, h3, h8, gi6, gi7, gi5, rM, rA0, rA1, rQ0, gB, gO, gU, gV, gS⟩ := HI.out
     exact hK'.out _ _ ⟨.mk .., rfl, rfl, h0, h1, h2, h3, h8, gi6, (fun _ => ⟨e4, e6⟩), gi5, (one_other (one_other (one_other (one_other (one_other (one_other rM ⟨w.heap.size + 1 + 1, 0, none⟩ (.int .i64 (B : Nat)) (blocks_ne rM (rQ0 rfl) (by decide))) ⟨w.heap.size + 1 + 1, 1, none⟩ (.int .i64 (N : Nat)) (blocks_ne rM (rQ0 rfl) (by decide))) ⟨w.heap.size + 1 + 1, 2, none⟩ (.slice fa (upN N).length fc) (blocks_ne rM (rQ0 rfl) (by decide))) ⟨w.heap.size + 1 + 1, 3, none⟩ (.int .u16 0) (blocks_ne rM (rQ0 rfl) (by decide))) ⟨w.heap.size + 1 + 1, 4, none⟩ (.int .u16 0) (blocks_ne rM (rQ0 rfl) (by decide))) ⟨w.heap.size + 1 + 1, 5, none⟩ (.slice none 0 0) (blocks_ne rM (rQ0 rfl) (by decide))), (fun e => (one_other (one_other (one_other (one_other (one_other (one_other (rA0 e) ⟨w.heap.size + 1 + 1, 0, none⟩ (.int .i64 (B : Nat)) (blocks_ne (rA0 e) (rQ0 rfl) (by decide))) ⟨w.heap.size + 1 + 1, 1, none⟩ (.int .i64 (N : Nat)) (blocks_ne (rA0 e) (rQ0 rfl) (by decide))) ⟨w.heap.size + 1 + 1, 2, none⟩ (.slice fa (upN N).length fc) (blocks_ne (rA0 e) (rQ0 rfl) (by decide))) ⟨w.heap.size + 1 + 1, 3, none⟩ (.int .u16 0) (blocks_ne (rA0 e) (rQ0 rfl) (by decide))) ⟨w.heap.size + 1 + 1, 4, none⟩ (.int .u16 0) (blocks_ne (rA0 e) (rQ0 rfl) (by decide))) ⟨w.heap.size + 1 + 1, 5, none⟩ (.slice none 0 0) (blocks_ne (rA0 e) (rQ0 rfl) (by decide)))), (fun e => (one_other (one_other (one_other (one_other (one_other (one_other (rA1 e) ⟨w.heap.size + 1 + 1, 0, none⟩ (.int .i64 (B : Nat)) (blocks_ne (rA1 e) (rQ0 rfl) (by decide))) ⟨w.heap.size + 1 + 1, 1, none⟩ (.int .i64 (N : Nat)) (blocks_ne (rA1 e) (rQ0 rfl) (by decide))) ⟨w.heap.size + 1 + 1, 2, none⟩ (.slice fa (upN N).length fc) (blocks_ne (rA1 e) (rQ0 rfl) (by decide))) ⟨w.heap.size + 1 + 1, 3, none⟩ (.int .u16 0) (blocks_ne (rA1 e) (rQ0 rfl) (by decide))) ⟨w.heap.size + 1 + 1, 4, none⟩ (.int .u16 0) (blocks_ne (rA1 e) (rQ0 rfl) (by decide))) ⟨w.heap.size + 1 + 1, 5, none⟩ (.slice none 0 0) (blocks_ne (rA1 e) (rQ0 rfl) (by decide)))), (fun e => by cases e), ((((((gB.setCell (p := ⟨w.heap.size + 1 + 1, 0, none⟩) (by show w.heap.size ≤ w.heap.size + 1 + 1; omega) (.int .i64 (B : Nat))).setCell (p := ⟨w.heap.size + 1 + 1, 1, none⟩) (by show w.heap.size ≤ w.heap.size + 1 + 1; omega) (.int .i64 (N : Nat))).setCell (p := ⟨w.heap.size + 1 + 1, 2, none⟩) (by show w.heap.size ≤ w.heap.size + 1 + 1; omega) (.slice fa (upN N).length fc)).setCell (p := ⟨w.heap.size + 1 + 1, 3, none⟩) (by show w.heap.size ≤ w.heap.size + 1 + 1; omega) (.int .u16 0)).setCell (p := ⟨w.heap.size + 1 + 1, 4, none⟩) (by show w.heap.size ≤ w.heap.size + 1 + 1; omega) (.int .u16 0)).setCell (p := ⟨w.heap.size + 1 + 1, 5, none⟩) (by show w.heap.size ≤ w.heap.size + 1 + 1; omega) (.slice none 0 0)), ((((((gO.stay (rQ0 rfl) (by decide) 0 (.int .i64 (B : Nat))).stay (row_put (rQ0 rfl) 0 (.int .i64 (B : Nat))) (by decide) 1 (.int .i64 (N : Nat))).stay (row_put (row_put (rQ0 rfl) 0 (.int .i64 (B : Nat))) 1 (.int .i64 (N : Nat))) (by decide) 2 (.slice fa (upN N).length fc)).stay (row_put (row_put (row_put (rQ0 rfl) 0 (.int .i64 (B : Nat))) 1 (.int .i64 (N : Nat))) 2 (.slice fa (upN N).length fc)) (by decide) 3 (.int .u16 0)).stay (row_put (row_put (row_put (row_put (rQ0 rfl) 0 (.int .i64 (B : Nat))) 1 (.int .i64 (N : Nat))) 2 (.slice fa (upN N).length fc)) 3 (.int .u16 0)) (by decide) 4 (.int .u16 0)).stay (row_put (row_put (row_put (row_put (row_put (rQ0 rfl) 0 (.int .i64 (B : Nat))) 1 (.int .i64 (N : Nat))) 2 (.slice fa (upN N).length fc)) 3 (.int .u16 0)) 4 (.int .u16 0)) (by decide) 5 (.slice none 0 0)), (fun e => by obtain ⟨y0, y1, h1, h2⟩ := gU e; exact ⟨y0, y1, h1, ((((((h2.stay (rQ0 rfl) (by decide) 0 (.int .i64 (B : Nat))).stay (row_put (rQ0 rfl) 0 (.int .i64 (B : Nat))) (by decide) 1 (.int .i64 (N : Nat))).stay (row_put (row_put (rQ0 rfl) 0 (.int .i64 (B : Nat))) 1 (.int .i64 (N : Nat))) (by decide) 2 (.slice fa (upN N).length fc)).stay (row_put (row_put (row_put (rQ0 rfl) 0 (.int .i64 (B : Nat))) 1 (.int .i64 (N : Nat))) 2 (.slice fa (upN N).length fc)) (by decide) 3 (.int .u16 0)).stay (row_put (row_put (row_put (row_put (rQ0 rfl) 0 (.int .i64 (B : Nat))) 1 (.int .i64 (N : Nat))) 2 (.slice fa (upN N).length fc)) 3 (.int .u16 0)) (by decide) 4 (.int .u16 0)).stay (row_put (row_put (row_put (row_put (row_put (rQ0 rfl) 0 (.int .i64 (B : Nat))) 1 (.int .i64 (N : Nat))) 2 (.slice fa (upN N).length fc)) 3 (.int .u16 0)) 4 (.int .u16 0)) (by decide) 5 (.slice none 0 0))⟩), (fun _ => ⟨fa, fc, rfl, six_owns hp (rQ0 rfl) tqI _ _ _ _ _ _⟩), (fun _ => ⟨fa, fc, six_row (rQ0 rfl) _ _ _ _ _ _, six_owns hp (rQ0 rfl) tqI _ _ _ _ _ _⟩)⟩
   · obtain ⟨rfl, e7⟩ : b8 = false ∧ b7 = true := by revert hp; cases b8 <;> cases b7 <;> simp
     clear hp
     refine inv_op (o := ⟨some 8, _, _, _, _, _⟩) rfl (fun K' hK' => ?_)
     go_simp
     exact hK'.out _ _ ⟨.mk .., rfl, rfl, Nx4 (Upd (fun _ => rfl)) HI.out⟩
  case hdone =>
   rintro ⟨b0, b1, b2, b3, b4, b5, b6, b7, b8, s26, s27, s28, s29, s30, s31, s8⟩ W hI hall
   dsimp only at hI hall ⊢
   have HI := Lib.hid hI
   clear hI
   obtain rfl : b0 = true := hall 0 (by decide)
   obtain rfl : b1 = true := hall 1 (by decide)
   obtain rfl : b2 = true := hall 2 (by decide)
   obtain rfl : b3 = true := hall 3 (by decide)
   obtain rfl : b4 = true := hall 4 (by decide)
   obtain rfl : b5 = true := hall 5 (by decide)
   obtain rfl : b6 = true := hall 6 (by decide)
   obtain rfl : b7 = true := hall 7 (by decide)
   obtain rfl : b8 = true := hall 8 (by decide)
   obtain rfl := (HI.out.2.2.2.2.1) rfl
   have rA1 := HI.out.2.2.2.2.2.2.2.2.2.2.1
   have gB := HI.out.2.2.2.2.2.2.2.2.2.2.2.2.1
   have gO := HI.out.2.2.2.2.2.2.2.2.2.2.2.2.2.1
   have gS := HI.out.2.2.2.2.2.2.2.2.2.2.2.2.2.2.2.2
   clear HI hall
   obtain ⟨fa, fc, hrow, hfree⟩ := gS rfl
   have hA := rA1 rfl
   obtain ⟨⟨r0, r1, r2, r3, r4, r5⟩, _⟩ := cells_six hrow
   obtain ⟨a0, a1⟩ := one_cell hA
   have HF := Lib.hid hfree
   have HB3 := Lib.hid gB
   have HO3 := Lib.hid gO
   clear rA1 hrow hA gS gB gO hfree a1
   go_wp2
   refine bodyPost_ret (v := .tuple #[.agg #[.slice ra L rc], .agg #[.int .i64 (B : Nat), .int .i64 (N : Nat), (.slice fa (upN N).length fc), .int .u16 (0 : Nat), .int .u16 (0 : Nat), (.slice none 0 0)], .int .i64 0]) (by simp [results, Tryz.results7, go_sem, r0, r1, r2, r3, r4, r5, a0]) rfl ⟨ra, rc, _, _, rfl, HO3.out, ⟨HF.out, ⟨rfl, World.ownsRow_nil _ _ _ _, fun i d c hd => by simp at hd⟩, fun i d p hd => by simp at hd⟩, HB3.out⟩
end Go.Proofs.YtnmekbbnglkmcaaGreat
namespace Go.Proofs.YtnmekbbnglkmcaaGreat
open Go.RowKit Go.Lib
theorem two_new2 (w : World) (cs ds : Array Value) (s t : TypeId) : ((w.alloc (.cells cs s)).alloc (.cells ds t)).heap[w.heap.size]? = some (.cells cs s (0, 0)) ∧ ((w.alloc (.cells cs s)).alloc (.cells ds t)).heap[w.heap.size + 1]? = some (.cells ds t (0, 0)) ∧ Below w.heap.size w ((w.alloc (.cells cs s)).alloc (.cells ds t)) :=
 ⟨row_new (heap_alloc_new w _) _, by simpa using heap_alloc_new (w.alloc (.cells cs s)) (.cells ds t), ((Below.refl _ _).alloc (Nat.le_refl _) _).alloc (by simp) _⟩
structure WorkB (B : Nat) (W : World) (g : Nat) (q : QQ) (F C M : Value) (D : List Value) (l : List UInt8) : Prop where
 lo : B ≤ g
 row : W.heap[g]? = some (.cells #[.int .i64 q.base, .int .i64 q.size, F, .int .u16 (q.avail : Nat), .int .u16 (q.last : Nat), C, M] 74 (0, 0))
 isq : IsQ B W F C q D
 mem : OwnB 0 W M l
theorem WorkB.below {B g : Nat} {w w' : World} {q : QQ} {F C M : Value} {D : List Value} {l : List UInt8} (h : WorkB B w g q F C M D l) (hb : Below w.heap.size w w') : WorkB B w' g q F C M D l := ⟨h.lo, row_keep h.row hb, h.isq.below hb, h.mem.below hb⟩
theorem IsQ.drew {B : Nat} {w : World} {F C : Value} {q : QQ} {D : List Value} (h : IsQ B w F C q D) : IsQ B w.drew F C q D := h.below (Below.refl _ _).drew
theorem WorkB.drew {B g : Nat} {w : World} {q : QQ} {F C M : Value} {D : List Value} {l : List UInt8} (h : WorkB B w g q F C M D l) : WorkB B w.drew g q F C M D l := h.below (Below.refl _ _).drew
theorem twI : (74 : Nat) ≠ 3 := by decide
theorem twC : (74 : Nat) ≠ 76 := by decide
theorem twU : (74 : Nat) ≠ 5 := by decide
theorem WorkB.stay {B g r : Nat} {w : World} {q : QQ} {F C M : Value} {D : List Value} {l : List UInt8} {cs : Array Value} {t : TypeId} {fr : Nat × Nat} (h : WorkB B w g q F C M D l) (hg : w.heap[r]? = some (.cells cs t fr)) (h1 : (t : Nat) ≠ 3) (h2 : (t : Nat) ≠ 76) (h3 : (t : Nat) ≠ 5) (h4 : (t : Nat) ≠ 74) (j : Nat) (u : Value) : WorkB B (w.setCell ⟨r, j, none⟩ u) g q F C M D l :=
 ⟨h.lo, one_other h.row _ _ (blocks_ne h.row hg h4), h.isq.stay hg h1 h2 j u, h.mem.stay hg h3 j u⟩
theorem cells_seven {X : World} {r : Nat} {a b c d e f m : Value} {t : TypeId} (h : X.heap[r]? = some (.cells #[a, b, c, d, e, f, m] t (0, 0))) :
 (X.cell? ⟨r, 0, none⟩ = some a ∧ X.cell? ⟨r, 1, none⟩ = some b ∧ X.cell? ⟨r, 2, none⟩ = some c ∧ X.cell? ⟨r, 3, none⟩ = some d ∧ X.cell? ⟨r, 4, none⟩ = some e ∧ X.cell? ⟨r, 5, none⟩ = some f ∧ X.cell? ⟨r, 6, none⟩ = some m) ∧
 (X.frozen? ⟨r, 0, none⟩ = false ∧ X.frozen? ⟨r, 1, none⟩ = false ∧ X.frozen? ⟨r, 2, none⟩ = false ∧ X.frozen? ⟨r, 3, none⟩ = false ∧ X.frozen? ⟨r, 4, none⟩ = false ∧ X.frozen? ⟨r, 5, none⟩ = false ∧ X.frozen? ⟨r, 6, none⟩ = false) :=
 ⟨⟨(at_cell h 0 _ rfl).1, (at_cell h 1 _ rfl).1, (at_cell h 2 _ rfl).1, (at_cell h 3 _ rfl).1, (at_cell h 4 _ rfl).1, (at_cell h 5 _ rfl).1, (at_cell h 6 _ rfl).1⟩, ⟨(at_cell h 0 _ rfl).2, (at_cell h 1 _ rfl).2, (at_cell h 2 _ rfl).2, (at_cell h 3 _ rfl).2, (at_cell h 4 _ rfl).2, (at_cell h 5 _ rfl).2, (at_cell h 6 _ rfl).2⟩⟩
structure QueBegA where
 (b0 b1 b2 b3 b4 b5 : Bool)
 (s7 s8 s9 s10 s11 s6 : Value)
structure QueBegB where
 (b0 b1 b2 b3 b4 b5 b6 b7 b8 b9 b10 b11 b12 b13 b14 b15 b16 b17 : Bool)
 (s12 s13 s14 s15 s16 s17 s18 s19 s20 s21 s22 s23 s24 s25 s26 s27 s28 s29 : Value)
set_option maxHeartbeats 4000000 in
set_option maxRecDepth 100000 in
theorem begin_any (q : QQ) (N : Nat) (v F C : Value) (D : List Value) (l : List UInt8) (w : World) (hv : OwnB 0 w v l) (hq : IsQ 0 w F C q D) (hg : GoodQ q N) (hok : okR l.length q.base q.size = true) :
 Calls Tryz.prog 24 #[.agg #[v], .agg #[.int .i64 q.base, .int .i64 q.size, F, .int .u16 (q.avail : Nat), .int .u16 (q.last : Nat), C]] w fun e w' => ∃ g F2 C2 E, e = .returned (.tuple #[.pointer (some ⟨g, 0, none⟩), .int .i64 0]) ∧ WorkB w.heap.size w' g q F2 C2 v E l ∧ Below w.heap.size w w' := by
 obtain ⟨fa, fn, fc, ca, cn, cc, rfl, rfl, hfn, hcn, k1, k2, k3, k4⟩ := hq.shape
 obtain ⟨b, z, fr, av, la, ch⟩ := q
 simp only at *
 obtain ⟨va, vc, rfl, hv1, hv2⟩ := hv.shape
 obtain ⟨L, hL⟩ : ∃ L, L = l.length := ⟨_, rfl⟩
 rw [← hL] at hv hok hv1 ⊢
 have HMX := Lib.hid (show L ≤ maxLen by omega)
 have HCK := Lib.hid hok
 have HG := Lib.hid hg
 obtain ⟨t0, t1, t3⟩ := two_new2 w #[.slice va L vc] #[.int .i64 b, .int .i64 z, .slice fa fn fc, .int .u16 (av : Nat), .int .u16 (la : Nat), .slice ca cn cc] 26 30
 have HM := Lib.hid t0
 have HP := Lib.hid t1
 have HB := Lib.hid t3
 have HQ := Lib.hid (hq.below t3)
 have HO := Lib.hid (hv.below t3)
 clear hq hg hv hok hfn hcn k1 k2 k3 k4 hv1 hv2 hL t0 t1 t3
 go_enter Tryz.func24, Tryz.ntmps24
 go_wp2_with fail
 refine wp_region_rec (X := QueBegA) (by kernel_rfl) (by kernel_rfl) (fun x => #[x.b0, x.b1, x.b2, x.b3, x.b4, x.b5]) (fun x => { tmps := #[.agg #[.slice va L vc], .agg #[.int .i64 b, .int .i64 z, .slice fa fn fc, .int .u16 (av : Nat), .int .u16 (la : Nat), .slice ca cn cc], .pointer (some ⟨w.heap.size, 0, none⟩), .pointer (some ⟨w.heap.size + 1, 0, none⟩), .pointer none, .int .i64 0, x.s6, x.s7, x.s8, x.s9, x.s10, x.s11, undef, undef, undef, undef, undef, undef, undef, undef, undef, undef, undef, undef, undef, undef, undef, undef, undef, undef, undef, undef], defers := [] }) (fun x W => (x.b0 = true → x.s7 = .agg #[.int .i64 b, .int .i64 z, .slice fa fn fc, .int .u16 (av : Nat), .int .u16 (la : Nat), .slice ca cn cc]) ∧ (x.b2 = true → x.s9 = .agg #[.slice va L vc]) ∧ (x.b5 = true → x.s6 = x.s11) ∧ (x.b5 = true → x.b4 = true) ∧ (x.b3 = true → x.b1 = true) ∧ (x.b4 = true → x.b1 = true) ∧ (W.heap[w.heap.size]? = some (.cells #[.slice va L vc] 26 (0, 0))) ∧ (W.heap[w.heap.size + 1]? = some (.cells #[.int .i64 b, .int .i64 z, .slice fa fn fc, .int .u16 (av : Nat), .int .u16 (la : Nat), .slice ca cn cc] 30 (0, 0))) ∧ (Below w.heap.size w W) ∧ (IsQ 0 W (.slice fa fn fc) (.slice ca cn cc) ⟨b, z, fr, av, la, ch⟩ D) ∧ (OwnB 0 W (.slice va L vc) l) ∧ (x.b1 = true → ∃ F2 C2 E, x.s8 = .agg #[.int .i64 b, .int .i64 z, F2, .int .u16 (av : Nat), .int .u16 (la : Nat), C2] ∧ IsQ w.heap.size W F2 C2 ⟨b, z, fr, av, la, ch⟩ E) ∧ (x.b3 = true → ∃ fa2 fn2 fc2 ca2 cn2 cc2 E, x.s10 = .agg #[.int .i64 b, .int .i64 z, .slice fa2 fn2 fc2, .int .u16 (av : Nat), .int .u16 (la : Nat), .slice ca2 cn2 cc2, .slice va L vc] ∧ IsQ w.heap.size W (.slice fa2 fn2 fc2) (.slice ca2 cn2 cc2) ⟨b, z, fr, av, la, ch⟩ E) ∧ (x.b4 = true → ∃ g fa2 fn2 fc2 ca2 cn2 cc2 E, x.s11 = .pointer (some ⟨g, 0, none⟩) ∧ WorkB w.heap.size W g ⟨b, z, fr, av, la, ch⟩ (.slice fa2 fn2 fc2) (.slice ca2 cn2 cc2) (.slice va L vc) E l)) ⟨false, false, false, false, false, false, undef, undef, undef, undef, undef, undef⟩ rfl rfl ⟨(fun h => by cases h), (fun h => by cases h), (fun h => by cases h), (fun h => by cases h), (fun h => by cases h), (fun h => by cases h), HM.out, HP.out, HB.out.drew, HQ.out.drew, HO.out, (fun h => by cases h), (fun h => by cases h), (fun h => by cases h)⟩ (fun _ => rfl) ?hstep ?hdone
 case hstep =>
  rintro ⟨b0, b1, b2, b3, b4, b5, s7, s8, s9, s10, s11, s6⟩ W hI i hi
  dsimp only at hI hi ⊢
  have HI := Lib.hid hI
  clear hI
  rw [Region.ready, List.mem_filter, List.mem_range] at hi
  obtain ⟨hlt, hp⟩ := hi
  have hi7 : i = 0 ∨ i = 1 ∨ i = 2 ∨ i = 3 ∨ i = 4 ∨ i = 5 := by simp at hlt; omega
  clear hlt
  rcases hi7 with rfl | rfl | rfl | rfl | rfl | rfl
  all_goals simp [Region.binds] at hp
  · obtain rfl : b0 = false := by revert hp; cases b0 <;> simp
    clear hp
    refine inv_op (o := ⟨some 7, _, _, _, _, _⟩) rfl (fun K' hK' => ?_)
    have rQ := HI.out.2.2.2.2.2.2.2.1
    obtain ⟨hc0, _⟩ := at_cell rQ 0 _ rfl
    obtain ⟨hc1, _⟩ := at_cell rQ 1 _ rfl
    obtain ⟨hc2, _⟩ := at_cell rQ 2 _ rfl
    obtain ⟨hc3, _⟩ := at_cell rQ 3 _ rfl
    obtain ⟨hc4, _⟩ := at_cell rQ 4 _ rfl
    obtain ⟨hc5, _⟩ := at_cell rQ 5 _ rfl
    go_simp
    exact hK'.out _ _ ⟨.mk .., rfl, rfl, (Upd (fun _ => rfl)) HI.out⟩
  · obtain ⟨rfl, e0⟩ : b1 = false ∧ b0 = true := by revert hp; cases b1 <;> cases b0 <;> simp
    clear hp
    obtain rfl := (HI.out.1) e0
    refine inv_op (o := ⟨some 8, _, _, _, _, _⟩) rfl (fun K' hK' => ?_)
    have gi3 := HI.out.2.2.2.2.1
    have gi4 := HI.out.2.2.2.2.2.1
    have gQ := HI.out.2.2.2.2.2.2.2.2.2.1
    have hbf3 : b3 = false := by cases b3 with | false => rfl | true => exact absurd ((gi3 rfl)) (by decide)
    subst hbf3
    have hbf4 : b4 = false := by cases b4 with | false => rfl | true => exact absurd ((gi4 rfl)) (by decide)
    subst hbf4
    go_simp
    refine (copied_any ⟨b, z, fr, av, la, ch⟩ N _ _ D W gQ HG.out).mono ?_
    rintro e w2 ⟨F2, C2, E, rfl, hq, bn⟩
    obtain ⟨h0, h2, h5, gi5, gi3, gi4, rM, rQ, gB, gQ, gO, gC, gD, gE⟩ := HI.out
    exact hK'.out _ _ ⟨.mk .., rfl, rfl, h0, h2, h5, gi5, (fun e => by cases e), (fun e => by cases e), (row_keep rM bn), (row_keep rQ bn), (gB.trans (bn.mono gB.size)), (gQ.below bn), (gO.below bn), (fun _ => ⟨F2, C2, E, rfl, hq.base gB.size⟩), (fun e => by cases e), (fun e => by cases e)⟩
  · obtain rfl : b2 = false := by revert hp; cases b2 <;> simp
    clear hp
    refine inv_op (o := ⟨some 9, _, _, _, _, _⟩) rfl (fun K' hK' => ?_)
    have rM := HI.out.2.2.2.2.2.2.1
    obtain ⟨hc0, _⟩ := at_cell rM 0 _ rfl
    go_simp
    exact hK'.out _ _ ⟨.mk .., rfl, rfl, Nxt (Upd (fun _ => rfl)) HI.out⟩
  · obtain ⟨rfl, e1, e2⟩ : b3 = false ∧ b1 = true ∧ b2 = true := by revert hp; cases b3 <;> cases b1 <;> cases b2 <;> simp
    clear hp
    obtain rfl := (HI.out.2.1) e2
    refine inv_op (o := ⟨some 10, _, _, _, _, _⟩) rfl (fun K' hK' => ?_)
    have gC := HI.out.2.2.2.2.2.2.2.2.2.2.2.1
    obtain ⟨F2, C2, E, rfl, hq⟩ := gC e1
    obtain ⟨fa2, fn2, fc2, ca2, cn2, cc2, rfl, rfl, k1, k2, k3, k4, k5, k6⟩ := hq.shape
    clear k1 k2 k3 k4 k5 k6
    go_simp
    obtain ⟨h0, h2, h5, gi5, gi3, gi4, rM, rQ, gB, gQ, gO, gC, gD, gE⟩ := HI.out
    exact hK'.out _ _ ⟨.mk .., rfl, rfl, h0, h2, h5, gi5, (fun _ => e1), gi4, rM, rQ, gB, gQ, gO, (fun _ => ⟨_, _, _, rfl, hq⟩), (fun _ => ⟨_, _, _, _, _, _, E, rfl, hq⟩), gE⟩
  · obtain ⟨rfl, e3⟩ : b4 = false ∧ b3 = true := by revert hp; cases b4 <;> cases b3 <;> simp
    clear hp
    refine inv_op (o := ⟨some 11, _, _, _, _, _⟩) rfl (fun K' hK' => ?_)
    have gi5 := HI.out.2.2.2.1
    have gD := HI.out.2.2.2.2.2.2.2.2.2.2.2.2.1
    have hbf5 : b5 = false := by cases b5 with | false => rfl | true => exact absurd ((gi5 rfl)) (by decide)
    subst hbf5
    obtain ⟨fa2, fn2, fc2, ca2, cn2, cc2, E, rfl, hq⟩ := gD e3
    have bn : Below W.heap.size W (W.alloc (.cells #[.int .i64 b, .int .i64 z, .slice fa2 fn2 fc2, .int .u16 (av : Nat), .int .u16 (la : Nat), .slice ca2 cn2 cc2, .slice va L vc] 74)) := (Below.refl _ _).alloc (Nat.le_refl _) _
    have hn := heap_alloc_new W (.cells #[.int .i64 b, .int .i64 z, .slice fa2 fn2 fc2, .int .u16 (av : Nat), .int .u16 (la : Nat), .slice ca2 cn2 cc2, .slice va L vc] 74)
    go_simp
    obtain ⟨h0, h2, h5, gi5, gi3, gi4, rM, rQ, gB, gQ, gO, gC, gD, gE⟩ := HI.out
    exact hK'.out _ _ ⟨.mk .., rfl, rfl, h0, h2, (fun e => by cases ((gi5 e))), (fun e => by cases e), gi3, (fun _ => (gi3 e3)), (row_keep rM bn), (row_keep rQ bn), (gB.trans (bn.mono gB.size)), (gQ.below bn), (gO.below bn), (fun e => by obtain ⟨y0, y1, y2, h1, h2⟩ := gC e; exact ⟨y0, y1, y2, h1, h2.below bn⟩), (fun _ => ⟨_, _, _, _, _, _, _, rfl, hq.below bn⟩), (fun _ => ⟨_, _, _, _, _, _, _, E, rfl, ⟨gB.size, hn, hq.below bn, gO.below bn⟩⟩)⟩
  · obtain ⟨rfl, e4, e1⟩ : b5 = false ∧ b4 = true ∧ b1 = true := by revert hp; cases b5 <;> cases b4 <;> cases b1 <;> simp
    clear hp
    refine inv_op (o := ⟨some 6, _, _, _, _, _⟩) rfl (fun K' hK' => ?_)
    go_simp
    exact hK'.out _ _ ⟨.mk .., rfl, rfl, Nxt (Nxt (Nxt (Upd (fun _ => e4)))) (Nxt (Nxt (Upd (fun _ => rfl))) HI.out)⟩
 case hdone =>
  rintro ⟨b0, b1, b2, b3, b4, b5, s7, s8, s9, s10, s11, s6⟩ W hI hall
  dsimp only at hI hall ⊢
  have HI := Lib.hid hI
  clear hI
  obtain rfl : b0 = true := hall 0 (by decide)
  obtain rfl : b1 = true := hall 1 (by decide)
  obtain rfl : b2 = true := hall 2 (by decide)
  obtain rfl : b3 = true := hall 3 (by decide)
  obtain rfl : b4 = true := hall 4 (by decide)
  obtain rfl : b5 = true := hall 5 (by decide)
  obtain rfl := (HI.out.2.2.1) rfl
  have rM := HI.out.2.2.2.2.2.2.1
  have rQ := HI.out.2.2.2.2.2.2.2.1
  have gB := HI.out.2.2.2.2.2.2.2.2.1
  have gQ := HI.out.2.2.2.2.2.2.2.2.2.1
  have gE := HI.out.2.2.2.2.2.2.2.2.2.2.2.2.2
  clear HI hall
  obtain ⟨g, fa2, fn2, fc2, ca2, cn2, cc2, E, rfl, hw⟩ := gE rfl
  have HM2 := Lib.hid rM
  have HP2 := Lib.hid rQ
  have HB2 := Lib.hid gB
  have HQ2 := Lib.hid gQ
  have HW2 := Lib.hid hw
  clear rM rQ gB gQ gE hw HM HP HB HQ HO
  obtain ⟨w2, hw2⟩ : ∃ x, x = W := ⟨_, rfl⟩
  subst hw2
  go_wp2_with fail
  refine wp_region_rec (X := QueBegB) (by kernel_rfl) (by kernel_rfl) (fun x => #[x.b0, x.b1, x.b2, x.b3, x.b4, x.b5, x.b6, x.b7, x.b8, x.b9, x.b10, x.b11, x.b12, x.b13, x.b14, x.b15, x.b16, x.b17]) (fun x => { tmps := #[.agg #[.slice va L vc], .agg #[.int .i64 b, .int .i64 z, .slice fa fn fc, .int .u16 (av : Nat), .int .u16 (la : Nat), .slice ca cn cc], .pointer (some ⟨w.heap.size, 0, none⟩), .pointer (some ⟨w.heap.size + 1, 0, none⟩), .pointer none, .int .i64 0, .pointer (some ⟨g, 0, none⟩), s7, s8, s9, s10, .pointer (some ⟨g, 0, none⟩), x.s12, x.s13, x.s14, x.s15, x.s16, x.s17, x.s18, x.s19, x.s20, x.s21, x.s22, x.s23, x.s24, x.s25, x.s26, x.s27, x.s28, x.s29, undef, undef], defers := [] }) (fun x W => (x.b0 = true → x.s12 = .agg #[.int .i64 b, .int .i64 z, .slice fa fn fc, .int .u16 (av : Nat), .int .u16 (la : Nat), .slice ca cn cc]) ∧ (x.b1 = true → x.s13 = .bool true) ∧ (x.b2 = true → x.s14 = .bool false) ∧ (x.b3 = true → x.s15 = .bool false) ∧ (x.b4 = true → x.s16 = .agg #[.slice va L vc]) ∧ (x.b5 = true → x.s17 = .pointer (some ⟨g, 0, none⟩)) ∧ (x.b6 = true → x.s18 = .pointer (some ⟨g, 0, none⟩)) ∧ (x.b7 = true → x.s19 = .pointer (some ⟨g, 0, none⟩)) ∧ (x.b8 = true → x.s20 = .pointer (some ⟨g, 0, none⟩)) ∧ (x.b9 = true → x.s21 = .int .i64 b) ∧ (x.b10 = true → x.s22 = .pointer (some ⟨g, 0, none⟩)) ∧ (x.b11 = true → x.s23 = .pointer (some ⟨g, 0, none⟩)) ∧ (x.b12 = true → x.s24 = .pointer (some ⟨g, 0, none⟩)) ∧ (x.b13 = true → x.s25 = .pointer (some ⟨g, 1, none⟩)) ∧ (x.b14 = true → x.s26 = .int .i64 z) ∧ (x.b15 = true → x.s27 = .bool true) ∧ (x.b16 = true → x.s28 = .bool false) ∧ (x.b17 = true → x.s29 = .bool false) ∧ (W.heap[w.heap.size]? = some (.cells #[.slice va L vc] 26 (0, 0))) ∧ (W.heap[w.heap.size + 1]? = some (.cells #[.int .i64 b, .int .i64 z, .slice fa fn fc, .int .u16 (av : Nat), .int .u16 (la : Nat), .slice ca cn cc] 30 (0, 0))) ∧ (W.heap[g]? = some (.cells #[.int .i64 b, .int .i64 z, .slice fa2 fn2 fc2, .int .u16 (av : Nat), .int .u16 (la : Nat), .slice ca2 cn2 cc2, .slice va L vc] 74 (0, 0))) ∧ (Below w.heap.size w W) ∧ (IsQ 0 W (.slice fa fn fc) (.slice ca cn cc) ⟨b, z, fr, av, la, ch⟩ D) ∧ (WorkB w.heap.size W g ⟨b, z, fr, av, la, ch⟩ (.slice fa2 fn2 fc2) (.slice ca2 cn2 cc2) (.slice va L vc) E l)) ⟨false, false, false, false, false, false, false, false, false, false, false, false, false, false, false, false, false, false, undef, undef, undef, undef, undef, undef, undef, undef, undef, undef, undef, undef, undef, undef, undef, undef, undef, undef⟩ rfl rfl ⟨(fun h => by cases h), (fun h => by cases h), (fun h => by cases h), (fun h => by cases h), (fun h => by cases h), (fun h => by cases h), (fun h => by cases h), (fun h => by cases h), (fun h => by cases h), (fun h => by cases h), (fun h => by cases h), (fun h => by cases h), (fun h => by cases h), (fun h => by cases h), (fun h => by cases h), (fun h => by cases h), (fun h => by cases h), (fun h => by cases h), HM2.out, HP2.out, HW2.out.row, HB2.out.drew, HQ2.out.drew, HW2.out.drew⟩ (fun _ => rfl) ?hstep ?hdone
  case hstep =>
   rintro ⟨b0, b1, b2, b3, b4, b5, b6, b7, b8, b9, b10, b11, b12, b13, b14, b15, b16, b17, s12, s13, s14, s15, s16, s17, s18, s19, s20, s21, s22, s23, s24, s25, s26, s27, s28, s29⟩ W hI i hi
   dsimp only at hI hi ⊢
   have HI := Lib.hid hI
   clear hI
   rw [Region.ready, List.mem_filter, List.mem_range] at hi
   obtain ⟨hlt, hp⟩ := hi
   have hi7 : i = 0 ∨ i = 1 ∨ i = 2 ∨ i = 3 ∨ i = 4 ∨ i = 5 ∨ i = 6 ∨ i = 7 ∨ i = 8 ∨ i = 9 ∨ i = 10 ∨ i = 11 ∨ i = 12 ∨ i = 13 ∨ i = 14 ∨ i = 15 ∨ i = 16 ∨ i = 17 := by simp at hlt; omega
   clear hlt
   rcases hi7 with rfl | rfl | rfl | rfl | rfl | rfl | rfl | rfl | rfl | rfl | rfl | rfl | rfl | rfl | rfl | rfl | rfl | rfl
   all_goals simp [Region.binds] at hp
   · obtain rfl : b0 = false := by revert hp; cases b0 <;> simp
     clear hp
     refine inv_op (o := ⟨some 12, _, _, _, _, _⟩) rfl (fun K' hK' => ?_)
     have rQ := HI.out.2.2.2.2.2.2.2.2.2.2.2.2.2.2.2.2.2.2.2.1
     obtain ⟨hc0, _⟩ := at_cell rQ 0 _ rfl
     obtain ⟨hc1, _⟩ := at_cell rQ 1 _ rfl
     obtain ⟨hc2, _⟩ := at_cell rQ 2 _ rfl
     obtain ⟨hc3, _⟩ := at_cell rQ 3 _ rfl
     obtain ⟨hc4, _⟩ := at_cell rQ 4 _ rfl
     obtain ⟨hc5, _⟩ := at_cell rQ 5 _ rfl
     go_simp
     exact hK'.out _ _ ⟨.mk .., rfl, rfl, (Upd (fun _ => rfl)) HI.out⟩
   · obtain ⟨rfl, e0⟩ : b1 = false ∧ b0 = true := by revert hp; cases b1 <;> cases b0 <;> simp
     clear hp
     obtain rfl := (HI.out.1) e0
     refine inv_op (o := ⟨some 13, _, _, _, _, _⟩) rfl (fun K' hK' => ?_)
     have gQ := HI.out.2.2.2.2.2.2.2.2.2.2.2.2.2.2.2.2.2.2.2.2.2.2.1
     go_simp
     refine (queCheck_any ⟨b, z, fr, av, la, ch⟩ N _ _ D W gQ HG.out).mono ?_
     rintro e w2 ⟨rfl, bn⟩
     obtain ⟨h0, h1, h2, h3, h4, h5, h6, h7, h8, h9, h10, h11, h12, h13, h14, h15, h16, h17, rM, rQ, rW, gB, gQ, gW⟩ := HI.out
     exact hK'.out _ _ ⟨.mk .., rfl, rfl, h0, (fun _ => rfl), h2, h3, h4, h5, h6, h7, h8, h9, h10, h11, h12, h13, h14, h15, h16, h17, (row_keep rM bn), (row_keep rQ bn), (row_keep rW bn), (gB.trans (bn.mono gB.size)), (gQ.below bn), (gW.below bn)⟩
   · obtain ⟨rfl, e1⟩ : b2 = false ∧ b1 = true := by revert hp; cases b2 <;> cases b1 <;> simp
     clear hp
     obtain rfl := (HI.out.2.1) e1
     refine inv_op (o := ⟨some 14, _, _, _, _, _⟩) rfl (fun K' hK' => ?_)
     go_simp
     exact hK'.out _ _ ⟨.mk .., rfl, rfl, Nxt (Nxt (Upd (fun _ => rfl))) HI.out⟩
   · obtain ⟨rfl, e2, e1⟩ : b3 = false ∧ b2 = true ∧ b1 = true := by revert hp; cases b3 <;> cases b2 <;> cases b1 <;> simp
     clear hp
     obtain rfl := (HI.out.2.2.1) e2
     refine inv_op (o := ⟨some 15, _, _, _, _, _⟩) rfl (fun K' hK' => ?_)
     go_simp
     exact hK'.out _ _ ⟨.mk .., rfl, rfl, Nxt (Nxt (Nxt (Upd (fun _ => rfl)))) HI.out⟩
   · obtain ⟨rfl, e3⟩ : b4 = false ∧ b3 = true := by revert hp; cases b4 <;> cases b3 <;> simp
     clear hp
     obtain rfl := (HI.out.2.2.2.1) e3
     refine inv_op (o := ⟨some 16, _, _, _, _, _⟩) rfl (fun K' hK' => ?_)
     have rM := HI.out.2.2.2.2.2.2.2.2.2.2.2.2.2.2.2.2.2.2.1
     obtain ⟨hc0, _⟩ := at_cell rM 0 _ rfl
     go_simp
     exact hK'.out _ _ ⟨.mk .., rfl, rfl, Nx4 (Upd (fun _ => rfl)) HI.out⟩
   · obtain ⟨rfl, e3⟩ : b5 = false ∧ b3 = true := by revert hp; cases b5 <;> cases b3 <;> simp
     clear hp
     obtain rfl := (HI.out.2.2.2.1) e3
     refine inv_op (o := ⟨some 17, _, _, _, _, _⟩) rfl (fun K' hK' => ?_)
     go_simp
     exact hK'.out _ _ ⟨.mk .., rfl, rfl, Nxt (Nx4 (Upd (fun _ => rfl))) HI.out⟩
   · obtain ⟨rfl, e3, e5⟩ : b6 = false ∧ b3 = true ∧ b5 = true := by revert hp; cases b6 <;> cases b3 <;> cases b5 <;> simp
     clear hp
     obtain rfl := (HI.out.2.2.2.1) e3
     obtain rfl := (HI.out.2.2.2.2.2.1) e5
     refine inv_op (o := ⟨some 18, _, _, _, _, _⟩) rfl (fun K' hK' => ?_)
     go_simp
     exact hK'.out _ _ ⟨.mk .., rfl, rfl, Nxt (Nxt (Nx4 (Upd (fun _ => rfl)))) HI.out⟩
   · obtain ⟨rfl, e3, e6⟩ : b7 = false ∧ b3 = true ∧ b6 = true := by revert hp; cases b7 <;> cases b3 <;> cases b6 <;> simp
     clear hp
     obtain rfl := (HI.out.2.2.2.1) e3
     obtain rfl := (HI.out.2.2.2.2.2.2.1) e6
     refine inv_op (o := ⟨some 19, _, _, _, _, _⟩) rfl (fun K' hK' => ?_)
     go_simp
     exact hK'.out _ _ ⟨.mk .., rfl, rfl, Nxt (Nxt (Nxt (Nx4 (Upd (fun _ => rfl))))) HI.out⟩
   · obtain ⟨rfl, e3, e7⟩ : b8 = false ∧ b3 = true ∧ b7 = true := by revert hp; cases b8 <;> cases b3 <;> cases b7 <;> simp
     clear hp
     obtain rfl := (HI.out.2.2.2.1) e3
     obtain rfl := (HI.out.2.2.2.2.2.2.2.1) e7
     refine inv_op (o := ⟨some 20, _, _, _, _, _⟩) rfl (fun K' hK' => ?_)
     go_simp
     exact hK'.out _ _ ⟨.mk .., rfl, rfl, Nx4 (Nx4 (Upd (fun _ => rfl))) HI.out⟩
   · obtain ⟨rfl, e3, e8⟩ : b9 = false ∧ b3 = true ∧ b8 = true := by revert hp; cases b9 <;> cases b3 <;> cases b8 <;> simp
     clear hp
     obtain rfl := (HI.out.2.2.2.1) e3
     obtain rfl := (HI.out.2.2.2.2.2.2.2.2.1) e8
     refine inv_op (o := ⟨some 21, _, _, _, _, _⟩) rfl (fun K' hK' => ?_)
     have rW := HI.out.2.2.2.2.2.2.2.2.2.2.2.2.2.2.2.2.2.2.2.2.1
     obtain ⟨hc0, _⟩ := at_cell rW 0 _ rfl
     go_simp
     exact hK'.out _ _ ⟨.mk .., rfl, rfl, Nxt (Nx4 (Nx4 (Upd (fun _ => rfl)))) HI.out⟩
   · obtain ⟨rfl, e3⟩ : b10 = false ∧ b3 = true := by revert hp; cases b10 <;> cases b3 <;> simp
     clear hp
     obtain rfl := (HI.out.2.2.2.1) e3
     refine inv_op (o := ⟨some 22, _, _, _, _, _⟩) rfl (fun K' hK' => ?_)
     go_simp
     exact hK'.out _ _ ⟨.mk .., rfl, rfl, Nxt (Nxt (Nx4 (Nx4 (Upd (fun _ => rfl))))) HI.out⟩
   · obtain ⟨rfl, e3, e10⟩ : b11 = false ∧ b3 = true ∧ b10 = true := by revert hp; cases b11 <;> cases b3 <;> cases b10 <;> simp
     clear hp
     obtain rfl := (HI.out.2.2.2.1) e3
     obtain rfl := (HI.out.2.2.2.2.2.2.2.2.2.2.1) e10
     refine inv_op (o := ⟨some 23, _, _, _, _, _⟩) rfl (fun K' hK' => ?_)
     go_simp
     exact hK'.out _ _ ⟨.mk .., rfl, rfl, Nxt (Nxt (Nxt (Nx4 (Nx4 (Upd (fun _ => rfl)))))) HI.out⟩
   · obtain ⟨rfl, e3, e11⟩ : b12 = false ∧ b3 = true ∧ b11 = true := by revert hp; cases b12 <;> cases b3 <;> cases b11 <;> simp
     clear hp
     obtain rfl := (HI.out.2.2.2.1) e3
     obtain rfl := (HI.out.2.2.2.2.2.2.2.2.2.2.2.1) e11
     refine inv_op (o := ⟨some 24, _, _, _, _, _⟩) rfl (fun K' hK' => ?_)
     go_simp
     exact hK'.out _ _ ⟨.mk .., rfl, rfl, Nx4 (Nx4 (Nx4 (Upd (fun _ => rfl)))) HI.out⟩
   · obtain ⟨rfl, e3, e12⟩ : b13 = false ∧ b3 = true ∧ b12 = true := by revert hp; cases b13 <;> cases b3 <;> cases b12 <;> simp
     clear hp
     obtain rfl := (HI.out.2.2.2.1) e3
     obtain rfl := (HI.out.2.2.2.2.2.2.2.2.2.2.2.2.1) e12
     refine inv_op (o := ⟨some 25, _, _, _, _, _⟩) rfl (fun K' hK' => ?_)
     go_simp
     exact hK'.out _ _ ⟨.mk .., rfl, rfl, Nxt (Nx4 (Nx4 (Nx4 (Upd (fun _ => rfl))))) HI.out⟩
   · obtain ⟨rfl, e3, e13⟩ : b14 = false ∧ b3 = true ∧ b13 = true := by revert hp; cases b14 <;> cases b3 <;> cases b13 <;> simp
     clear hp
     obtain rfl := (HI.out.2.2.2.1) e3
     obtain rfl := (HI.out.2.2.2.2.2.2.2.2.2.2.2.2.2.1) e13
     refine inv_op (o := ⟨some 26, _, _, _, _, _⟩) rfl (fun K' hK' => ?_)
     have rW := HI.out.2.2.2.2.2.2.2.2.2.2.2.2.2.2.2.2.2.2.2.2.1
     obtain ⟨hc1, _⟩ := at_cell rW 1 _ rfl
     go_simp
     exact hK'.out _ _ ⟨.mk .., rfl, rfl, Nxt (Nxt (Nx4 (Nx4 (Nx4 (Upd (fun _ => rfl)))))) HI.out⟩
   · have hn15 : b15 = false := by revert hp; cases b15 <;> simp
     have e3 : b3 = true := by revert hp; cases b3 <;> simp
     have e4 : b4 = true := by revert hp; cases b4 <;> simp
     have e9 : b9 = true := by revert hp; cases b9 <;> simp
     have e14 : b14 = true := by revert hp; cases b14 <;> simp
     clear hp
     obtain rfl := (HI.out.2.2.2.1) e3
     obtain rfl := (HI.out.2.2.2.2.1) e4
     obtain rfl := (HI.out.2.2.2.2.2.2.2.2.2.1) e9
     obtain rfl := (HI.out.2.2.2.2.2.2.2.2.2.2.2.2.2.2.1) e14
     subst hn15
     refine inv_op (o := ⟨some 27, _, _, _, _, _⟩) rfl (fun K' hK' => ?_)
     go_simp
     refine (ringCheck_any _ _ _ HMX.out _ _ _ HCK.out W).mono ?_
     rintro e w2 ⟨rfl, bn⟩
     obtain ⟨h0, h1, h2, h3, h4, h5, h6, h7, h8, h9, h10, h11, h12, h13, h14, h15, h16, h17, rM, rQ, rW, gB, gQ, gW⟩ := HI.out
     exact hK'.out _ _ ⟨.mk .., rfl, rfl, h0, h1, h2, h3, h4, h5, h6, h7, h8, h9, h10, h11, h12, h13, h14, (fun _ => rfl), h16, h17, (row_keep rM bn), (row_keep rQ bn), (row_keep rW bn), (gB.trans (bn.mono gB.size)), (gQ.below bn), (gW.below bn)⟩
   · obtain ⟨rfl, e3, e15⟩ : b16 = false ∧ b3 = true ∧ b15 = true := by revert hp; cases b16 <;> cases b3 <;> cases b15 <;> simp
     clear hp
     obtain rfl := (HI.out.2.2.2.1) e3
     obtain rfl := (HI.out.2.2.2.2.2.2.2.2.2.2.2.2.2.2.2.1) e15
     refine inv_op (o := ⟨some 28, _, _, _, _, _⟩) rfl (fun K' hK' => ?_)
     go_simp
     exact hK'.out _ _ ⟨.mk .., rfl, rfl, Nx16 (Upd (fun _ => rfl)) HI.out⟩
   · obtain ⟨rfl, e3, e16⟩ : b17 = false ∧ b3 = true ∧ b16 = true := by revert hp; cases b17 <;> cases b3 <;> cases b16 <;> simp
     clear hp
     obtain rfl := (HI.out.2.2.2.1) e3
     obtain rfl := (HI.out.2.2.2.2.2.2.2.2.2.2.2.2.2.2.2.2.1) e16
     refine inv_op (o := ⟨some 29, _, _, _, _, _⟩) rfl (fun K' hK' => ?_)
     go_simp
     exact hK'.out _ _ ⟨.mk .., rfl, rfl, Nxt (Nx16 (Upd (fun _ => rfl))) HI.out⟩
  case hdone =>
   rintro ⟨b0, b1, b2, b3, b4, b5, b6, b7, b8, b9, b10, b11, b12, b13, b14, b15, b16, b17, s12, s13, s14, s15, s16, s17, s18, s19, s20, s21, s22, s23, s24, s25, s26, s27, s28, s29⟩ W hI hall
   dsimp only at hI hall ⊢
   have HI := Lib.hid hI
   clear hI
   obtain rfl : b0 = true := hall 0 (by decide)
   obtain rfl : b1 = true := hall 1 (by decide)
   obtain rfl : b2 = true := hall 2 (by decide)
   obtain rfl : b3 = true := hall 3 (by decide)
   obtain rfl : b4 = true := hall 4 (by decide)
   obtain rfl : b5 = true := hall 5 (by decide)
   obtain rfl : b6 = true := hall 6 (by decide)
   obtain rfl : b7 = true := hall 7 (by decide)
   obtain rfl : b8 = true := hall 8 (by decide)
   obtain rfl : b9 = true := hall 9 (by decide)
   obtain rfl : b10 = true := hall 10 (by decide)
   obtain rfl : b11 = true := hall 11 (by decide)
   obtain rfl : b12 = true := hall 12 (by decide)
   obtain rfl : b13 = true := hall 13 (by decide)
   obtain rfl : b14 = true := hall 14 (by decide)
   obtain rfl : b15 = true := hall 15 (by decide)
   obtain rfl : b16 = true := hall 16 (by decide)
   obtain rfl : b17 = true := hall 17 (by decide)
   obtain rfl := (HI.out.2.2.2.2.2.2.2.2.2.2.2.2.2.2.2.2.2.1) rfl
   have gB := HI.out.2.2.2.2.2.2.2.2.2.2.2.2.2.2.2.2.2.2.2.2.2.1
   have gW := HI.out.2.2.2.2.2.2.2.2.2.2.2.2.2.2.2.2.2.2.2.2.2.2.2
   clear HI hall
   have HB3 := Lib.hid gB
   have HW3 := Lib.hid gW
   clear gB gW HM2 HP2 HQ2 HW2 HB2
   go_wp2
   go_ret2
   exact ⟨g, _, _, E, rfl, HW3.out, HB3.out⟩
end Go.Proofs.YtnmekbbnglkmcaaGreat
namespace Go.Proofs.YtnmekbbnglkmcaaGreat
open Go.RowKit Go.Lib
def bufCells (l : List QB) : List Value := l.flatMap fun x => [.int .i64 x.1, .int .i64 x.2.1, .bool x.2.2]
theorem bufCells_append (l m : List QB) : bufCells (l ++ m) = bufCells l ++ bufCells m := by simp [bufCells]
theorem bufCells_at (l : List QB) (k : Nat) (x : QB) (h : l[k]? = some x) : (bufCells l)[k * 3]? = some (.int .i64 x.1) ∧ (bufCells l)[k * 3 + 1]? = some (.int .i64 x.2.1) ∧ (bufCells l)[k * 3 + 2]? = some (.bool x.2.2) := by
 induction l generalizing k with
 | nil => simp at h
 | cons y r ih =>
   cases k with
   | zero => simp at h; subst h; exact ⟨rfl, rfl, rfl⟩
   | succ k =>
     have h1 := ih k (by simpa using h)
     have h2 : bufCells (y :: r) = .int .i64 y.1 :: .int .i64 y.2.1 :: .bool y.2.2 :: bufCells r := rfl
     rw [h2, show (k + 1) * 3 = k * 3 + 1 + 1 + 1 by omega]
     exact h1
def OwnBf (B : Nat) (W : World) (v : Value) (l : List QB) : Prop := W.ownsRow B 39 3 v l.length (bufCells l)
theorem OwnBf.below {B : Nat} {w w' : World} {v : Value} {l : List QB} (h : OwnBf B w v l) (hb : Below w.heap.size w w') : OwnBf B w' v l := ownsRow_below h hb
theorem OwnBf.base {B B' : Nat} {w : World} {v : Value} {l : List QB} (h : OwnBf B w v l) (hb : B' ≤ B) : OwnBf B' w v l := ownsRow_base h hb
theorem OwnBf.stay {B g : Nat} {w : World} {v : Value} {l : List QB} {cs : Array Value} {t : TypeId} {fr : Nat × Nat} (h : OwnBf B w v l) (hg : w.heap[g]? = some (.cells cs t fr)) (hne : (t : Nat) ≠ 39) (j : Nat) (u : Value) : OwnBf B (w.setCell ⟨g, j, none⟩ u) v l := owns_stay h hg hne j u
theorem OwnBf.shape {B : Nat} {w : World} {v : Value} {l : List QB} (h : OwnBf B w v l) : ∃ a c, v = .slice a l.length c ∧ l.length ≤ c ∧ c ≤ maxLen := owns_slice h
theorem OwnBf.lie {B : Nat} {w : World} {a : Option Addr} {n c : Nat} {l : List QB} (h : OwnBf B w (.slice a n c) l) (h0 : 0 < l.length) : ∃ g, a = some ⟨g, 0, none⟩ ∧ g < w.heap.size := by
 rcases h.2 with ⟨_, h1⟩ | ⟨g, cap, cur, hv, hb, hh, h1, h2, _⟩
 · omega
 · cases hv
   exact ⟨g, rfl, (Array.getElem?_eq_some_iff.1 hh).1⟩
theorem OwnBf.at {B : Nat} {w : World} {g n c : Nat} {l : List QB} (h : OwnBf B w (.slice (some ⟨g, 0, none⟩) n c) l) (i : Nat) (hi : i < l.length) :
 ∃ (a z : Int) (b : Bool), l[i]? = some (a, z, b) ∧ w.cell? ⟨g, i * 3, none⟩ = some (.int .i64 a) ∧ w.cell? ⟨g, i * 3 + 1, none⟩ = some (.int .i64 z) ∧ w.cell? ⟨g, i * 3 + 2, none⟩ = some (.bool b) := by
 have h0 : w.ownsRow B 39 3 (.slice (some ⟨g, 0, none⟩) n c) l.length (bufCells l) := h
 have hn : n = l.length := by obtain ⟨a, c', hv, _⟩ := h.shape; cases hv; rfl
 subst hn
 have hx : l[i]? = some l[i] := List.getElem?_eq_getElem hi
 obtain ⟨e1, e2, e3⟩ := bufCells_at l i _ hx
 exact ⟨_, _, _, hx, (World.ownsRow.cellAt h0 _ (by omega)).trans e1, (World.ownsRow.cellAt h0 _ (by omega)).trans e2, (World.ownsRow.cellAt h0 _ (by omega)).trans e3⟩
def InB (L : Nat) (b : QB) : Prop := 0 ≤ b.1 ∧ 1 ≤ b.2.1 ∧ b.1 + b.2.1 ≤ L
structure QueFaultX where
 (b0 b1 b2 b3 b4 b5 b6 b7 b8 b9 b10 b11 : Bool)
 (s26 s27 s28 s29 s30 s31 s32 s33 s34 s35 s36 s37 : Value)
set_option maxHeartbeats 4000000 in
set_option maxRecDepth 100000 in
theorem addFault_any (B g : Nat) (q : QQ) (N : Nat) (F C M v : Value) (D : List Value) (l : List UInt8) (bs : List QB) (r : Int) (w : World) (hw : WorkB B w g q F C M D l) (hbf : OwnBf 0 w v bs) (hg : GoodQ q N) (hl : l.length ≤ 8192)
 (h1 : 1 ≤ bs.length) (h2 : bs.length ≤ N) (h3 : ∀ x ∈ bs, InB l.length x) (hr : (bs.length ≤ q.free.length ∧ r = 0) ∨ (q.free.length < bs.length ∧ r = 4)) :
 Calls Tryz.prog 25 #[.pointer (some ⟨g, 0, none⟩), v] w fun e w' => e = .returned (.int .i64 r) ∧ Below w.heap.size w w' := by
 obtain ⟨few1, few2, few3, few4, few5⟩ := hg.few
 have hzN := hg.size
 obtain ⟨fa, fn, fc, ca, cn, cc, rfl, rfl, hfn, hcn, k1, k2, k3, k4⟩ := hw.isq.shape
 obtain ⟨b, z, fr, av, la, ch⟩ := q
 simp only at *
 obtain ⟨va, vc, rfl, hv1, hv2⟩ := hw.mem.shape
 obtain ⟨L, hL⟩ : ∃ L, L = l.length := ⟨_, rfl⟩
 obtain ⟨ba, bc, rfl, hb1, hb2⟩ := hbf.shape
 obtain ⟨n, hn⟩ : ∃ n, n = bs.length := ⟨_, rfl⟩
 rw [← hn] at h1 h2 hbf hb1 hr ⊢
 rw [← hL] at hw h3 hl
 rw [← hfn] at hr
 subst hzN
 obtain ⟨gb, rfl, hgb⟩ := hbf.lie (by omega)
 have HW := Lib.hid hw
 have HBF := Lib.hid hbf
 have HL8 := Lib.hid hl
 have HIN := Lib.hid h3
 have HN := Lib.hid hn
 have hn16 : n ≤ 16 := by omega
 have hfn16 : fn ≤ 16 := by omega
 have e1 : decide (((n : Nat) : Int) < 1) = false := decide_eq_false (by omega)
 have e2 : decide (((N : Nat) : Int) < ((n : Nat) : Int)) = false := decide_eq_false (by omega)
 have e3 : decide (n < 1) = false := decide_eq_false (by omega)
 have e4 : decide (N < n) = false := decide_eq_false (by omega)
 obtain ⟨⟨l0, l1, l2, l3, l4, l5, l6⟩, _⟩ := cells_seven hw.row
 have HR := Lib.hid hr
 have HH1 := Lib.hid h1
 clear hw hbf hg h2 h3 hr hl few1 few2 few3 few4 few5 hfn hcn k1 k2 k3 k4 hv1 hv2 hL hb1 hb2 hn h1
 go_enter Tryz.func25, Tryz.ntmps25
 go_wp2
 clear l0 l1 l2 l3 l4 l5 l6 e1 e2 e3 e4
 go_loopw [22] (fun i wr => ∃ k : Nat, k ≤ n ∧ i = .int .i64 k ∧ Below w.heap.size w wr) (fun i _ => n - (intOf i).toNat)
 case atStart => exact ⟨0, Nat.zero_le _, rfl, Below.refl _ _⟩
 case round =>
  obtain ⟨k, hk, rfl, hbw⟩ := hrel
  have HBw := Lib.hid hbw
  have HWw := Lib.hid (HW.out.below hbw)
  have HBFw := Lib.hid (HBF.out.below hbw)
  clear hbw
  by_cases hlt : k < n
  · obtain ⟨px, py, pt, hx, g0, g1, g2⟩ := HBFw.out.at k (by rw [← HN.out]; exact hlt)
    have hin := HIN.out _ (List.mem_of_getElem? hx)
    obtain ⟨i1, i2, i3⟩ := hin
    simp only at i1 i2 i3
    obtain ⟨px, rfl⟩ := Int.eq_ofNat_of_zero_le i1
    obtain ⟨py, rfl⟩ := Int.eq_ofNat_of_zero_le (show 0 ≤ py by omega)
    have HXY := Lib.hid (show px ≤ 8192 ∧ py ≤ 8192 ∧ 1 ≤ py ∧ px + py ≤ L by have := HL8.out; omega)
    have hlen : 0 ≤ (k : Int) ∧ (k : Int) < (n : Int) := by omega
    obtain ⟨hl0, hl1⟩ := hlen
    clear hx i1 i2 i3
    go_wp2_with fail
    refine wp_region_rec (X := QueFaultX) (by kernel_rfl) (by kernel_rfl) (fun x => #[x.b0, x.b1, x.b2, x.b3, x.b4, x.b5, x.b6, x.b7, x.b8, x.b9, x.b10, x.b11]) (fun x => { tmps := List.toArray ((.pointer (some ⟨g, 0, none⟩)) :: (.slice (some ⟨gb, 0, none⟩) n bc) :: undef :: undef :: u4 :: undef :: (.pointer (some ⟨wr.heap.size, 0, none⟩)) :: (.slice (some ⟨gb, 0, none⟩) n bc) :: (.int .i64 (n : Nat)) :: (.bool false) :: (.bool false) :: (.slice (some ⟨gb, 0, none⟩) n bc) :: (.int .i64 (n : Nat)) :: (.pointer (some ⟨g, 0, none⟩)) :: (.pointer (some ⟨g, 0, none⟩)) :: (.pointer (some ⟨g, 0, none⟩)) :: (.pointer (some ⟨g, 1, none⟩)) :: (.int .i64 (N : Nat)) :: (.bool false) :: (.bool false) :: (.slice (some ⟨gb, 0, none⟩) n bc) :: (.int .i64 (n : Nat)) :: (.int .i64 (k : Nat)) :: (.bool true) :: (.pointer (some ⟨gb, k * 3, none⟩)) :: (.agg #[.int .i64 (px : Nat), .int .i64 (py : Nat), .bool pt]) :: x.s26 :: x.s27 :: x.s28 :: x.s29 :: x.s30 :: x.s31 :: x.s32 :: x.s33 :: x.s34 :: x.s35 :: x.s36 :: x.s37 :: u38 :: undef :: undef :: undef :: undef :: undef :: undef :: undef :: undef :: undef :: []), defers := [] }) (fun x W => (x.b0 = true → x.s26 = .pointer (some ⟨g, 0, none⟩)) ∧ (x.b1 = true → x.s27 = .pointer (some ⟨g, 0, none⟩)) ∧ (x.b2 = true → x.s28 = .pointer (some ⟨g, 6, none⟩)) ∧ (x.b3 = true → x.s29 = .agg #[.slice va L vc]) ∧ (x.b4 = true → x.s30 = .pointer (some ⟨wr.heap.size, 0, none⟩)) ∧ (x.b5 = true → x.s31 = .int .i64 (px : Nat)) ∧ (x.b6 = true → x.s32 = .int .u64 (px : Nat)) ∧ (x.b7 = true → x.s33 = .pointer (some ⟨wr.heap.size, 1, none⟩)) ∧ (x.b8 = true → x.s34 = .int .i64 (py : Nat)) ∧ (x.b9 = true → x.s35 = .int .u64 (py : Nat)) ∧ (x.b10 = true → x.s36 = .bool true) ∧ (x.b11 = true → x.s37 = .bool false) ∧ (W.heap[g]? = some (.cells #[.int .i64 b, .int .i64 (N : Nat), .slice fa fn fc, .int .u16 (av : Nat), .int .u16 (la : Nat), .slice ca cn cc, .slice va L vc] 74 (0, 0))) ∧ (W.heap[wr.heap.size]? = some (.cells #[.int .i64 (px : Nat), .int .i64 (py : Nat), .bool pt] 39 (0, 0))) ∧ (Below wr.heap.size wr W)) ⟨false, false, false, false, false, false, false, false, false, false, false, false, u26, u27, u28, u29, u30, u31, u32, u33, u34, u35, u36, u37⟩ rfl rfl ⟨(fun h => by cases h), (fun h => by cases h), (fun h => by cases h), (fun h => by cases h), (fun h => by cases h), (fun h => by cases h), (fun h => by cases h), (fun h => by cases h), (fun h => by cases h), (fun h => by cases h), (fun h => by cases h), (fun h => by cases h), (row_new HWw.out.row _), (heap_alloc_new wr (.cells #[.int .i64 (px : Nat), .int .i64 (py : Nat), .bool pt] 39)), ((Below.refl wr.heap.size wr).alloc (Nat.le_refl _) _).drew⟩ (fun _ => rfl) ?hstep ?hdone
    case hstep =>
     rintro ⟨b0, b1, b2, b3, b4, b5, b6, b7, b8, b9, b10, b11, s26, s27, s28, s29, s30, s31, s32, s33, s34, s35, s36, s37⟩ W hI i hi
     dsimp only at hI hi ⊢
     have HI := Lib.hid hI
     clear hI
     rw [Region.ready, List.mem_filter, List.mem_range] at hi
     obtain ⟨hlt, hp⟩ := hi
     have hi7 : i = 0 ∨ i = 1 ∨ i = 2 ∨ i = 3 ∨ i = 4 ∨ i = 5 ∨ i = 6 ∨ i = 7 ∨ i = 8 ∨ i = 9 ∨ i = 10 ∨ i = 11 := by simp at hlt; omega
     clear hlt
     rcases hi7 with rfl | rfl | rfl | rfl | rfl | rfl | rfl | rfl | rfl | rfl | rfl | rfl
     all_goals simp [Region.binds] at hp
     · obtain rfl : b0 = false := by revert hp; cases b0 <;> simp
       clear hp
       refine inv_op (o := ⟨some 26, _, _, _, _, _⟩) rfl (fun K' hK' => ?_)
       go_simp
       exact hK'.out _ _ ⟨.mk .., rfl, rfl, (Upd (fun _ => rfl)) HI.out⟩
     · obtain ⟨rfl, e0⟩ : b1 = false ∧ b0 = true := by revert hp; cases b1 <;> cases b0 <;> simp
       clear hp
       obtain rfl := (HI.out.1) e0
       refine inv_op (o := ⟨some 27, _, _, _, _, _⟩) rfl (fun K' hK' => ?_)
       go_simp
       exact hK'.out _ _ ⟨.mk .., rfl, rfl, Nxt (Upd (fun _ => rfl)) HI.out⟩
     · obtain ⟨rfl, e1⟩ : b2 = false ∧ b1 = true := by revert hp; cases b2 <;> cases b1 <;> simp
       clear hp
       obtain rfl := (HI.out.2.1) e1
       refine inv_op (o := ⟨some 28, _, _, _, _, _⟩) rfl (fun K' hK' => ?_)
       go_simp
       exact hK'.out _ _ ⟨.mk .., rfl, rfl, Nxt (Nxt (Upd (fun _ => rfl))) HI.out⟩
     · obtain ⟨rfl, e2⟩ : b3 = false ∧ b2 = true := by revert hp; cases b3 <;> cases b2 <;> simp
       clear hp
       obtain rfl := (HI.out.2.2.1) e2
       refine inv_op (o := ⟨some 29, _, _, _, _, _⟩) rfl (fun K' hK' => ?_)
       have rW := HI.out.2.2.2.2.2.2.2.2.2.2.2.2.1
       obtain ⟨hc6, _⟩ := at_cell rW 6 _ rfl
       go_simp
       exact hK'.out _ _ ⟨.mk .., rfl, rfl, Nxt (Nxt (Nxt (Upd (fun _ => rfl)))) HI.out⟩
     · obtain rfl : b4 = false := by revert hp; cases b4 <;> simp
       clear hp
       refine inv_op (o := ⟨some 30, _, _, _, _, _⟩) rfl (fun K' hK' => ?_)
       go_simp
       exact hK'.out _ _ ⟨.mk .., rfl, rfl, Nx4 (Upd (fun _ => rfl)) HI.out⟩
     · obtain ⟨rfl, e4⟩ : b5 = false ∧ b4 = true := by revert hp; cases b5 <;> cases b4 <;> simp
       clear hp
       obtain rfl := (HI.out.2.2.2.2.1) e4
       refine inv_op (o := ⟨some 31, _, _, _, _, _⟩) rfl (fun K' hK' => ?_)
       have rB := HI.out.2.2.2.2.2.2.2.2.2.2.2.2.2.1
       obtain ⟨hc0, _⟩ := at_cell rB 0 _ rfl
       go_simp
       exact hK'.out _ _ ⟨.mk .., rfl, rfl, Nxt (Nx4 (Upd (fun _ => rfl))) HI.out⟩
     · obtain ⟨rfl, e5⟩ : b6 = false ∧ b5 = true := by revert hp; cases b6 <;> cases b5 <;> simp
       clear hp
       obtain rfl := (HI.out.2.2.2.2.2.1) e5
       refine inv_op (o := ⟨some 32, _, _, _, _, _⟩) rfl (fun K' hK' => ?_)
       have hw1 : IntKind.u64.wrap ((px : Nat) : Int) = (px : Nat) := IntWalk.u64_in _ (by have := HXY.out.1; omega)
       go_simp
       exact hK'.out _ _ ⟨.mk .., rfl, rfl, Nxt (Nxt (Nx4 (Upd (fun _ => rfl)))) HI.out⟩
     · obtain rfl : b7 = false := by revert hp; cases b7 <;> simp
       clear hp
       refine inv_op (o := ⟨some 33, _, _, _, _, _⟩) rfl (fun K' hK' => ?_)
       go_simp
       exact hK'.out _ _ ⟨.mk .., rfl, rfl, Nxt (Nxt (Nxt (Nx4 (Upd (fun _ => rfl))))) HI.out⟩
     · obtain ⟨rfl, e7⟩ : b8 = false ∧ b7 = true := by revert hp; cases b8 <;> cases b7 <;> simp
       clear hp
       obtain rfl := (HI.out.2.2.2.2.2.2.2.1) e7
       refine inv_op (o := ⟨some 34, _, _, _, _, _⟩) rfl (fun K' hK' => ?_)
       have rB := HI.out.2.2.2.2.2.2.2.2.2.2.2.2.2.1
       obtain ⟨hc1, _⟩ := at_cell rB 1 _ rfl
       go_simp
       exact hK'.out _ _ ⟨.mk .., rfl, rfl, Nx4 (Nx4 (Upd (fun _ => rfl))) HI.out⟩
     · obtain ⟨rfl, e8⟩ : b9 = false ∧ b8 = true := by revert hp; cases b9 <;> cases b8 <;> simp
       clear hp
       obtain rfl := (HI.out.2.2.2.2.2.2.2.2.1) e8
       refine inv_op (o := ⟨some 35, _, _, _, _, _⟩) rfl (fun K' hK' => ?_)
       have hw1 : IntKind.u64.wrap ((py : Nat) : Int) = (py : Nat) := IntWalk.u64_in _ (by have := HXY.out.2.1; omega)
       go_simp
       exact hK'.out _ _ ⟨.mk .., rfl, rfl, Nxt (Nx4 (Nx4 (Upd (fun _ => rfl)))) HI.out⟩
     · have hn10 : b10 = false := by revert hp; cases b10 <;> simp
       have e3 : b3 = true := by revert hp; cases b3 <;> simp
       have e6 : b6 = true := by revert hp; cases b6 <;> simp
       have e9 : b9 = true := by revert hp; cases b9 <;> simp
       clear hp
       obtain rfl := (HI.out.2.2.2.1) e3
       obtain rfl := (HI.out.2.2.2.2.2.2.1) e6
       obtain rfl := (HI.out.2.2.2.2.2.2.2.2.2.1) e9
       subst hn10
       refine inv_op (o := ⟨some 36, _, _, _, _, _⟩) rfl (fun K' hK' => ?_)
       go_simp
       refine (lies_in _ L _ px py HL8.out HXY.out.2.2.1 HXY.out.2.2.2 W).mono ?_
       rintro e w2 ⟨rfl, bn⟩
       obtain ⟨h0, h1, h2, h3, h4, h5, h6, h7, h8, h9, h10, h11, rW, rB, gB⟩ := HI.out
       exact hK'.out _ _ ⟨.mk .., rfl, rfl, h0, h1, h2, h3, h4, h5, h6, h7, h8, h9, (fun _ => rfl), h11, (row_keep rW bn), (row_keep rB bn), (gB.trans (bn.mono gB.size))⟩
     · obtain ⟨rfl, e10⟩ : b11 = false ∧ b10 = true := by revert hp; cases b11 <;> cases b10 <;> simp
       clear hp
       obtain rfl := (HI.out.2.2.2.2.2.2.2.2.2.2.1) e10
       refine inv_op (o := ⟨some 37, _, _, _, _, _⟩) rfl (fun K' hK' => ?_)
       go_simp
       exact hK'.out _ _ ⟨.mk .., rfl, rfl, Nxt (Nxt (Nxt (Nx4 (Nx4 (Upd (fun _ => rfl)))))) HI.out⟩
    case hdone =>
     rintro ⟨b0, b1, b2, b3, b4, b5, b6, b7, b8, b9, b10, b11, s26, s27, s28, s29, s30, s31, s32, s33, s34, s35, s36, s37⟩ W hI hall
     dsimp only at hI hall ⊢
     have HI := Lib.hid hI
     clear hI
     obtain rfl : b0 = true := hall 0 (by decide)
     obtain rfl : b1 = true := hall 1 (by decide)
     obtain rfl : b2 = true := hall 2 (by decide)
     obtain rfl : b3 = true := hall 3 (by decide)
     obtain rfl : b4 = true := hall 4 (by decide)
     obtain rfl : b5 = true := hall 5 (by decide)
     obtain rfl : b6 = true := hall 6 (by decide)
     obtain rfl : b7 = true := hall 7 (by decide)
     obtain rfl : b8 = true := hall 8 (by decide)
     obtain rfl : b9 = true := hall 9 (by decide)
     obtain rfl : b10 = true := hall 10 (by decide)
     obtain rfl : b11 = true := hall 11 (by decide)
     obtain rfl := (HI.out.2.2.2.2.2.2.2.2.2.2.2.1) rfl
     have gB := HI.out.2.2.2.2.2.2.2.2.2.2.2.2.2.2
     clear HI hall
     have HB4 := Lib.hid gB
     clear gB g0 g1 g2
     go_wp2
     go_roundw
     case rel => exact ⟨k + 1, by omega, by go_num, HBw.out.trans (HB4.out.mono HBw.out.size)⟩
     case measure => simp [intOf]; omega
  · obtain rfl : k = n := by omega
    obtain ⟨⟨l0, l1, l2, l3, l4, l5, l6⟩, _⟩ := cells_seven HWw.out.row
    rcases HR.out with ⟨hr, rfl⟩ | ⟨hr, rfl⟩
    · have f1 : decide (((fn : Nat) : Int) < ((k : Nat) : Int)) = false := decide_eq_false (by omega)
      have f2 : decide (fn < k) = false := decide_eq_false (by omega)
      clear hr
      go_wp2
      go_ret
      exact ⟨rfl, HBw.out⟩
    · have f1 : decide (((fn : Nat) : Int) < ((k : Nat) : Int)) = true := decide_eq_true (by omega)
      have f2 : decide (fn < k) = true := decide_eq_true (by omega)
      clear hr
      go_wp2
      go_ret
      exact ⟨rfl, HBw.out⟩
end Go.Proofs.YtnmekbbnglkmcaaGreat
namespace Go.Proofs.YtnmekbbnglkmcaaGreat
open Go.RowKit Go.Lib
end Go.Proofs.YtnmekbbnglkmcaaGreat
namespace Go.Proofs.YtnmekbbnglkmcaaGreat
open Go.RowKit Go.Lib
end Go.Proofs.YtnmekbbnglkmcaaGreat
namespace Go.Proofs.YtnmekbbnglkmcaaGreat
open Go.RowKit Go.Lib
structure Grew (B : Nat) (w w' : World) (v v' : Value) (e : TypeId) (s n : Nat) (xs : List Value) : Prop where
 below : Below B w w'
 own : w'.ownsRow B e s v' n xs
 row : ∀ (k : Nat) (o : Obj), w.heap[k]? = some o → v.ownBlock ≠ some k → w'.heap[k]? = some o
 blk : ∀ p, v'.ownBlock = some p → v.ownBlock = some p ∨ w.heap.size ≤ p
theorem Grew.other {B : Nat} {w w' : World} {v v' : Value} {e : TypeId} {s n : Nat} {xs : List Value} (h : Grew B w w' v v' e s n xs) {m : Nat} {ys : List Value} (hv : w.ownsRow B e s v m ys) {k : Nat} {cur : Array Value} {t : TypeId} {f : Nat × Nat} (hk : w.heap[k]? = some (.cells cur t f)) (ht : (t : Nat) ≠ e) : w'.heap[k]? = some (.cells cur t f) :=
 h.row k _ hk (fun e' => by
  rcases hv.2 with ⟨rfl, _⟩ | ⟨g, cap, c2, rfl, _, hh, _⟩
  · cases e'
  · have e' : g = k := by simpa [Value.ownBlock] using e'
    subst e'
    rw [hk] at hh
    injection hh with hh
    injection hh with _ hh _
    exact ht hh)
theorem append_grew {P : Program} (w : World) (B : Nat) (t ty e : TypeId) (i : TypeInfo) (z : Value) (size bytes : Nat) (ht : P.underlying t = some (.slice e)) (hi : P.info? e = some i) (hz : i.zero = some z)
 (hsize : i.size = size) (hby : i.bytes = bytes) (hzs : z.cells.size = size) (hsz : 0 < size) (hb40 : bytes ≤ 40) (v : Value) (n : Nat) (xs : List Value) (hown : w.ownsRow B e size v n xs) (ad : Addr) (m c : Nat) (news : List Value) (hl : news.length = m * size)
 (hnews : ∀ j u, news[j]? = some u → w.cell? (ad.add j) = some u) (h1 : ∀ u ∈ news, u.oneCell' = true) (hn : n + m ≤ 1000) (hB : B ≤ w.heap.size) :
 ∃ v' w', (Builtin.append_ #[t, t] ty #[v, .slice (some ad) m c]).run P w = .ok v' w' ∧ Grew B w w' v v' e size (n + m) (xs ++ news) := by
 have hnb : (n + m) * bytes ≤ 1000 * 40 := Nat.mul_le_mul hn hb40
 obtain ⟨v', w', hr, h2, h3, _⟩ := run_append_own (P := P) w B t ty e i z size bytes ht hi hz hsize hby hzs hsz v n xs hown ad m c news hl hnews h1 (by unfold maxLen; omega) (by omega) hB
 refine ⟨v', w', hr, ⟨(Below.refl _ _).grown h3 hB (fun j hj => (hown.lt j hj).1), h2, fun k o hk hne => (h3.block k (Array.getElem?_eq_some_iff.1 hk).1 (fun e' => hne e'.symm)).trans hk, ?_⟩⟩
 rcases hown.2 with ⟨rfl, rfl⟩ | ⟨b, cap, cur, rfl, hbg, hh, hnc, hcm, hcs, htake⟩
 · have hx : xs = [] := List.eq_nil_of_length_eq_zero (by simpa using hown.1)
   subst hx
   obtain ⟨v2, w2, hr2, h4, _, _⟩ := run_append_own (P := P) w w.heap.size t ty e i z size bytes ht hi hz hsize hby hzs hsz (.slice none 0 0) 0 [] (World.ownsRow_nil _ _ _ _) ad m c news hl hnews h1 (by unfold maxLen; omega) (by omega) (Nat.le_refl _)
   rw [hr] at hr2
   injection hr2 with e1 e2
   subst e1
   subst e2
   exact fun p hp => .inr (h4.lt p hp).1
 · by_cases hroom : n + m ≤ cap
   · have hfit : n * i.size + news.length ≤ cur.size := by rw [hcs, hsize, hl, ← Nat.add_mul]; exact Nat.mul_le_mul_right size hroom
     have hr2 := run_append_room (P := P) w t ty e i ht hi b n cap cur hh ad m c news (by rw [hsize]; exact hl) hnews h1 hroom hfit
     rw [hr] at hr2
     injection hr2 with e1 e2
     subst e1
     exact fun p hp => .inl hp
   · have holds : ∀ j u, xs[j]? = some u → w.cell? ((⟨b, 0, none⟩ : Addr).add j) = some u := hown.cells (g := b) rfl
     have hr2 := run_append_grow (P := P) w t ty e i z ht hi hz ⟨b, 0, none⟩ n cap xs (by rw [hsize]; exact hown.1) holds ad m c news (by rw [hsize]; exact hl) hnews (by omega) (by omega) (by rw [hby]; exact growslice_fits (by omega) (by omega))
     rw [hr] at hr2
     injection hr2 with e1 e2
     subst e1
     exact fun p hp => .inr (by simp [Value.ownBlock] at hp; omega)
theorem step_append_grew {P : Program} (w : World) {ops : Array Oper} {o : Oper} {a : Act} {K : Act → World → Prop} {Q : Exit → Act → World → Prop} {E : Prop} (hgd : o.guard = none) (s x : Operand) (t : TypeId)
 (ho : o.op = .call { callee := .builtin .append, args := #[s, x], argTypes := #[t, t] })
 (B : Nat) (e : TypeId) (i : TypeInfo) (z : Value) (size bytes : Nat) (ht : P.underlying t = some (.slice e)) (hi : P.info? e = some i) (hz : i.zero = some z)
 (hsize : i.size = size) (hby : i.bytes = bytes) (hzs : z.cells.size = size) (hsz : 0 < size) (hb40 : bytes ≤ 40)
 (v : Value) (n : Nat) (xs : List Value) (hs : a.eval s = v) (hown : w.ownsRow B e size v n xs)
 (ad : Addr) (m c : Nat) (news : List Value) (hx : a.eval x = .slice (some ad) m c) (hl : news.length = m * size)
 (hnews : ∀ j u, news[j]? = some u → w.cell? (ad.add j) = some u) (h1 : ∀ u ∈ news, u.oneCell' = true) (hn : n + m ≤ 1000) (hB : B ≤ w.heap.size)
 (h : ∀ v' w', Grew B w w' v v' e size (n + m) (xs ++ news) → K (a.put o.dst v') w') : if Region.wanted o (yielded ops a.tmps) = true then Oper.wp P o a w K Q else E := by
 have hw : Region.wanted o (yielded ops a.tmps) = true := by simp [Region.wanted, hgd]
 rw [if_pos hw]
 obtain ⟨v', w', hr, hg⟩ := append_grew (P := P) w B t o.type e i z size bytes ht hi hz hsize hby hzs hsz hb40 v n xs hown ad m c news hl hnews h1 hn hB
 unfold Oper.wp
 simp [execOp, ho, resolve, invoke, builtin, hs, hx, hr, Result.andThen]
 exact h v' w' hg
end Go.Proofs.YtnmekbbnglkmcaaGreat
namespace Go.Proofs.YtnmekbbnglkmcaaGreat
open Go.RowKit Go.Lib
theorem Turn.other {w w' : World} {g B n s : Nat} {e t : TypeId} {v : Value} {xs : List Value} {cur : Array Value} {fr : Nat × Nat} (h : Turn w w' g) (hg : w.heap[g]? = some (.cells cur t fr)) (hne : (t : Nat) ≠ e) (ho : w.ownsRow B e s v n xs) : w'.ownsRow B e s v n xs :=
 owns_keep ho fun k c _ hc => h.row k _ hc (fun e' => by
  subst e'
  rw [hg] at hc
  injection hc with hc
  injection hc with _ hc _
  exact hne hc)
theorem Turn.wk {w w' : World} {B g gf : Nat} {q : QQ} {F C M : Value} {D : List Value} {l : List UInt8} {cur : Array Value} {t : TypeId} {fr : Nat × Nat} (ht : Turn w w' gf) (h : WorkB B w g q F C M D l) (hg : w.heap[gf]? = some (.cells cur t fr)) (hne : (t : Nat) ≠ 74) : w'.heap[g]? = some (.cells #[.int .i64 q.base, .int .i64 q.size, F, .int .u16 (q.avail : Nat), .int .u16 (q.last : Nat), C, M] 74 (0, 0)) :=
 ht.row g _ h.row (blocks_ne hg h.row (fun e => hne e.symm))
theorem tIC : (3 : Nat) ≠ 76 := by decide
theorem tIW : (3 : Nat) ≠ 74 := by decide
theorem tIU : (3 : Nat) ≠ 5 := by decide
theorem tChW : (76 : Nat) ≠ 74 := by decide
theorem tChU : (76 : Nat) ≠ 5 := by decide
theorem WorkB.turnF {w w' : World} {B g gf n fc : Nat} {q : QQ} {C M : Value} {D : List Value} {l : List UInt8} (h : WorkB B w g q (.slice (some ⟨gf, 0, none⟩) n fc) C M D l) (ht : Turn w w' gf) {cur : Array Value} (hg : w.heap[gf]? = some (.cells cur 3 (0, 0))) {m : Nat} {free : List Int} (ho : OwnI B w' (.slice (some ⟨gf, 0, none⟩) m fc) free) :
 IsQ B w' (.slice (some ⟨gf, 0, none⟩) m fc) C { q with free := free } D ∧ OwnB 0 w' M l :=
 ⟨⟨ho, ⟨h.isq.chains.len, ht.other hg tIC h.isq.chains.row, fun i d c hd hc => ht.owns (h.isq.chains.ds i d c hd hc) (fun e => h.isq.apart i d gf hd e rfl)⟩, fun i d p hd hp e => h.isq.apart i d p hd hp e⟩, ht.other hg tIU h.mem⟩
theorem WorkB.cutF {w w' : World} {B g gf n fc : Nat} {q : QQ} {C M : Value} {D : List Value} {l : List UInt8} (h : WorkB B w g q (.slice (some ⟨gf, 0, none⟩) n fc) C M D l) (ht : Turn w w' gf) {cur : Array Value} (hg : w.heap[gf]? = some (.cells cur 3 (0, 0))) {m : Nat} {free : List Int} (ho : OwnI B w' (.slice (some ⟨gf, 0, none⟩) m fc) free) :
 WorkB B (w'.setCell ⟨g, 2, none⟩ (.slice (some ⟨gf, 0, none⟩) m fc)) g { q with free := free } (.slice (some ⟨gf, 0, none⟩) m fc) C M D l :=
 have hr := ht.wk h hg tIW
 have hq := h.turnF ht hg ho
 ⟨h.lo, row_put hr 2 _, hq.1.stay hr twI twC 2 _, hq.2.stay hr twU 2 _⟩
theorem WorkB.sortF {w w' : World} {B g gf n fc : Nat} {q : QQ} {C M : Value} {D : List Value} {l : List UInt8} (h : WorkB B w g q (.slice (some ⟨gf, 0, none⟩) n fc) C M D l) (ht : Turn w w' gf) {cur : Array Value} (hg : w.heap[gf]? = some (.cells cur 3 (0, 0))) {free : List Int} (ho : OwnI B w' (.slice (some ⟨gf, 0, none⟩) n fc) free) :
 WorkB B w' g { q with free := free } (.slice (some ⟨gf, 0, none⟩) n fc) C M D l :=
 have hq := h.turnF ht hg ho
 have hr := ht.wk h hg tIW
 ⟨h.lo, hr, hq.1, hq.2⟩
theorem WorkB.growF {w w' : World} {B g : Nat} {q : QQ} {F F2 C M : Value} {D : List Value} {l : List UInt8} {free : List Int} (h : WorkB B w g q F C M D l) (hg : Grew B w w' F F2 3 1 free.length (free.map (Value.int .i64))) :
 WorkB B (w'.setCell ⟨g, 2, none⟩ F2) g { q with free := free } F2 C M D l := by
 have hr := hg.other h.isq.free h.row twI
 have hc : OwnC B w' C q.chains D := ⟨h.isq.chains.len, owns_keep h.isq.chains.row fun k c _ hk => hg.other h.isq.free hk tCI, fun i d c hd hc => owns_keep (h.isq.chains.ds i d c hd hc) fun k cur hk hcur => hg.row k _ hcur (fun e => h.isq.apart i d k hd hk e)⟩
 have hap : ∀ (i : Nat) (d : Value) (p : Nat), D[i]? = some d → d.ownBlock = some p → F2.ownBlock ≠ some p := fun i d p hd hp e => by
  rcases hg.blk p e with e | e
  · exact h.isq.apart i d p hd hp e
  · have hi : i < q.chains.length := by rw [← h.isq.chains.len]; exact (List.getElem?_eq_some_iff.1 hd).1
    have := ((h.isq.chains.ds i d _ hd (List.getElem?_eq_getElem hi)).lt p hp).2
    omega
 have hq : IsQ B w' F2 C { q with free := free } D := ⟨hg.own, hc, hap⟩
 have hm : OwnB 0 w' M l := owns_keep h.mem fun k c _ hk => hg.other h.isq.free hk (fun e => tIU e.symm)
 exact ⟨h.lo, row_put hr 2 _, hq.stay hr twI twC 2 _, hm.stay hr twU 2 _⟩
theorem WorkB.push {w w' : World} {B g : Nat} {q : QQ} {F C C2 M Dv : Value} {D : List Value} {l : List UInt8} {c : QCh} (h : WorkB B w g q F C M D l) (hg : Grew B w w' C C2 76 3 (q.chains.length + 1) (chCells q.chains D ++ [.int .i64 c.head, Dv, .int .i64 c.room])) (hd : OwnI B w Dv c.ds) (hap : ∀ p, Dv.ownBlock = some p → F.ownBlock ≠ some p) :
 WorkB B (w'.setCell ⟨g, 5, none⟩ C2) g { q with chains := q.chains ++ [c] } F C2 M (D ++ [Dv]) l := by
 have hr := hg.other h.isq.chains.row h.row twC
 have ki : ∀ {v : Value} {x : List Int}, OwnI B w v x → OwnI B w' v x := fun h1 => owns_keep h1 fun k cur _ hk => hg.other h.isq.chains.row hk tIC
 have hq : IsQ B w' F C2 { q with chains := q.chains ++ [c] } (D ++ [Dv]) := by
  refine ⟨ki h.isq.free, ⟨by simp [h.isq.chains.len], ?_, fun i d x hd2 hx => ?_⟩, fun i d p hd2 hp => ?_⟩
  · rw [List.length_append, chCells_append h.isq.chains.len]
    exact hg.own
  · by_cases hi : i < q.chains.length
    · rw [List.getElem?_append_left (by rw [h.isq.chains.len]; exact hi)] at hd2
      rw [List.getElem?_append_left hi] at hx
      exact ki (h.isq.chains.ds i d x hd2 hx)
    · rw [List.getElem?_append_right (by rw [h.isq.chains.len]; omega), h.isq.chains.len] at hd2
      rw [List.getElem?_append_right (by omega)] at hx
      obtain ⟨e1, _⟩ := List.getElem?_eq_some_iff.1 hx
      have e2 : i - q.chains.length = 0 := by simpa using e1
      rw [e2] at hd2 hx
      simp at hd2 hx
      subst hd2
      subst hx
      exact ki hd
  · by_cases hi : i < D.length
    · rw [List.getElem?_append_left hi] at hd2
      exact h.isq.apart i d p hd2 hp
    · rw [List.getElem?_append_right (by omega)] at hd2
      obtain ⟨e1, _⟩ := List.getElem?_eq_some_iff.1 hd2
      have e2 : i - D.length = 0 := by simpa using e1
      rw [e2] at hd2
      simp at hd2
      subst hd2
      exact hap p hp
 have hm : OwnB 0 w' M l := owns_keep h.mem fun k cur _ hk => hg.other h.isq.chains.row hk (fun e => tChU e.symm)
 exact ⟨h.lo, row_put hr 5 _, hq.stay hr twI twC 5 _, hm.stay hr twU 5 _⟩
theorem WorkB.pop {w w' : World} {B g gc n cc i : Nat} {q : QQ} {F M : Value} {D : List Value} {l : List UInt8} (h : WorkB B w g q F (.slice (some ⟨gc, 0, none⟩) n cc) M D l) (ht : Turn w w' gc) {cur : Array Value} (hg : w.heap[gc]? = some (.cells cur 76 (0, 0))) {m : Nat}
 (ho : w'.ownsRow B 76 3 (.slice (some ⟨gc, 0, none⟩) m cc) (q.chains.eraseIdx i).length (chCells (q.chains.eraseIdx i) (D.eraseIdx i))) :
 WorkB B (w'.setCell ⟨g, 5, none⟩ (.slice (some ⟨gc, 0, none⟩) m cc)) g { q with chains := q.chains.eraseIdx i } F (.slice (some ⟨gc, 0, none⟩) m cc) M (D.eraseIdx i) l := by
 have hr := ht.wk h hg tChW
 have ki : ∀ {v : Value} {x : List Int}, OwnI B w v x → OwnI B w' v x := fun h1 => ht.other hg tCI h1
 have hq : IsQ B w' F (.slice (some ⟨gc, 0, none⟩) m cc) { q with chains := q.chains.eraseIdx i } (D.eraseIdx i) := by
  refine ⟨ki h.isq.free, ⟨?_, ho, fun j d x hd hx => ?_⟩, fun j d p hd hp => ?_⟩
  · simp only [List.length_eraseIdx, h.isq.chains.len]
  · simp only [List.getElem?_eraseIdx] at hd hx
    by_cases hj : j < i
    · rw [if_pos hj] at hd hx
      exact ki (h.isq.chains.ds _ d x hd hx)
    · rw [if_neg hj] at hd hx
      exact ki (h.isq.chains.ds _ d x hd hx)
  · simp only [List.getElem?_eraseIdx] at hd
    by_cases hj : j < i
    · rw [if_pos hj] at hd
      exact h.isq.apart _ d p hd hp
    · rw [if_neg hj] at hd
      exact h.isq.apart _ d p hd hp
 exact ⟨h.lo, row_put hr 5 _, hq.stay hr twI twC 5 _, (show OwnB 0 w' M l from ht.other hg tChU h.mem).stay hr twU 5 _⟩
theorem WorkB.setL {w : World} {B g : Nat} {q : QQ} {F C M : Value} {D : List Value} {l : List UInt8} (h : WorkB B w g q F C M D l) (t : Nat) : WorkB B (w.setCell ⟨g, 4, none⟩ (.int .u16 (t : Nat))) g { q with last := t } F C M D l :=
 ⟨h.lo, row_put h.row 4 _, (h.isq.stay h.row twI twC 4 _).as rfl rfl, h.mem.stay h.row twU 4 _⟩
theorem WorkB.setA {w : World} {B g : Nat} {q : QQ} {F C M : Value} {D : List Value} {l : List UInt8} (h : WorkB B w g q F C M D l) (t : Nat) : WorkB B (w.setCell ⟨g, 3, none⟩ (.int .u16 (t : Nat))) g { q with avail := t } F C M D l :=
 ⟨h.lo, row_put h.row 3 _, (h.isq.stay h.row twI twC 3 _).as rfl rfl, h.mem.stay h.row twU 3 _⟩
theorem WorkB.setM {w : World} {B g : Nat} {q : QQ} {F C M M2 : Value} {D : List Value} {l l2 : List UInt8} (h : WorkB B w g q F C M D l) (hm : OwnB 0 w M2 l2) : WorkB B (w.setCell ⟨g, 6, none⟩ M2) g q F C M2 D l2 :=
 ⟨h.lo, row_put h.row 6 _, h.isq.stay h.row twI twC 6 _, hm.stay h.row twU 6 _⟩
theorem Spare.grew {w w' : World} {B n s m : Nat} {T : Nat → Bool} {v v' : Value} {e : TypeId} {xs ys : List Value} (h : Grew B w w' v v' e s n xs) (hv : w.ownsRow B e s v m ys) (hT : T e = true) : Spare w w' B T :=
 ⟨h.below, fun k cs t fr hk ht => h.other hv hk (fun e' => by
  have e'' : t = e := e'
  rw [e'', hT] at ht
  cases ht)⟩
end Go.Proofs.YtnmekbbnglkmcaaGreat
namespace Go.Proofs.YtnmekbbnglkmcaaGreat
open Go.RowKit Go.Lib
theorem WorkB.awayC {B g r : Nat} {w : World} {q : QQ} {F C M : Value} {D : List Value} {l : List UInt8} {cs : Array Value} {fr : Nat × Nat} (h : WorkB B w g q F C M D l) (hr : w.heap[r]? = some (.cells cs 76 fr)) (hne : C.ownBlock ≠ some r) (j : Nat) (u : Value) : WorkB B (w.setCell ⟨r, j, none⟩ u) g q F C M D l :=
 ⟨h.lo, one_other h.row _ _ (blocks_ne h.row hr tChW), ⟨h.isq.free.stay hr tCI j u, ⟨h.isq.chains.len, owns_keep h.isq.chains.row fun k c hk hc => one_other hc _ _ (fun e => hne (by rw [show r = k from e]; exact hk)), fun i d c hd hc => (h.isq.chains.ds i d c hd hc).stay hr tCI j u⟩, h.isq.apart⟩, h.mem.stay hr tChU j u⟩
theorem in_range (b : QB) (L : Nat) (h : InB L b) (hL : L ≤ 8192) : 0 ≤ b.2.1 ∧ b.2.1 ≤ 8192 := by
 obtain ⟨h1, h2, h3⟩ := h
 omega
structure QueChainA where
 (b0 b1 b2 b3 b4 b5 b6 b7 b8 b9 b10 b11 b12 b13 b14 b15 b16 b17 b18 : Bool)
 (s8 s9 s10 s11 s12 s13 s14 s15 s16 s17 s18 s19 s20 s21 s22 s23 s24 s5 : Value)
structure QueChainB where
 (b0 b1 b2 b3 b4 b5 b6 b7 b8 b9 b10 b11 b12 : Bool)
 (s52 s53 s54 s55 s56 s57 s58 s59 s60 s61 s62 s63 : Value)
theorem three_news {w : World} {g : Nat} {a b c : Value} (h0 : w.cell? ⟨g, 0, none⟩ = some a) (h1 : w.cell? ⟨g, 1, none⟩ = some b) (h2 : w.cell? ⟨g, 2, none⟩ = some c) : ∀ j u, [a, b, c][j]? = some u → w.cell? ((⟨g, 0, none⟩ : Addr).add j) = some u := by
 intro j u hu
 rw [Addr.add_lit, Nat.zero_add]
 match j, hu with
 | 0, hu => simp at hu; rw [← hu]; exact h0
 | 1, hu => simp at hu; rw [← hu]; exact h1
 | 2, hu => simp at hu; rw [← hu]; exact h2
 | j + 3, hu => simp at hu
theorem three_one (a : Int) (p : Option Addr) (n c : Nat) (z : Int) : ∀ u ∈ [Value.int .i64 a, .slice p n c, .int .i64 z], u.oneCell' = true := by
 intro u hu
 simp at hu
 rcases hu with rfl | rfl | rfl <;> rfl
set_option maxHeartbeats 4000000 in
set_option maxRecDepth 100000 in
theorem chain_any (B g : Nat) (q : QQ) (N : Nat) (F C M v : Value) (D : List Value) (l : List UInt8) (bs : List QB) (w : World) (hw : WorkB B w g q F C M D l) (hbf : OwnBf 0 w v bs) (hg : GoodQ q N) (h1 : 1 ≤ bs.length) (h2 : bs.length ≤ q.free.length) (h3 : ∀ x ∈ bs, InB l.length x) (hl8 : l.length ≤ 8192) (hB : B ≤ w.heap.size) :
 Calls Tryz.prog 26 #[.pointer (some ⟨g, 0, none⟩), v] w fun e w' => ∃ F2 C2 Dv, e = .returned (.agg #[.int .i64 (addC q bs).head, Dv, .int .i64 (addC q bs).room]) ∧ WorkB B w' g { q with free := q.free.drop bs.length, chains := q.chains ++ [addC q bs] } F2 C2 M (D ++ [Dv]) l ∧ OwnI B w' Dv (addC q bs).ds ∧ Spare w w' B dirtyQ := by
 obtain ⟨few1, few2, few3, few4, few5⟩ := hg.few
 have hzN := hg.size
 obtain ⟨fa, fn, fc, ca, cn, cc, rfl, rfl, hfn, hcn, k1, k2, k3, k4⟩ := hw.isq.shape
 obtain ⟨b, z, fr, av, la, ch⟩ := q
 simp only [addC] at *
 obtain ⟨va, vc, rfl, hv1, hv2⟩ := hw.mem.shape
 obtain ⟨L, hL⟩ : ∃ L, L = l.length := ⟨_, rfl⟩
 obtain ⟨ba, bc, rfl, hb1, hb2⟩ := hbf.shape
 obtain ⟨n, hn⟩ : ∃ n, n = bs.length := ⟨_, rfl⟩
 rw [← hn] at h1 h2 hbf hb1 ⊢
 rw [← hL] at hw h3 hl8 ⊢
 rw [← hfn] at h2
 subst hzN
 obtain ⟨gb, rfl, hgb⟩ := hbf.lie (by omega)
 obtain ⟨gf, fcur, rfl, p1, p2, hfrow, p3, p4, p5⟩ := hw.isq.free.lie (by intro e; simp only at e; rw [e] at hfn; simp at hfn; omega)
 obtain ⟨hd, hhd⟩ : ∃ x, fr.getD 0 0 = x := ⟨_, rfl⟩
 rw [hhd]
 have HHD := Lib.hid hhd
 have HFR := Lib.hid hfrow
 have HGF := Lib.hid (show gf < w.heap.size from p2)
 have HFP := Lib.hid (show 0 < fr.length by omega)
 have HNF := Lib.hid (show n ≤ fr.length by omega)
 have HFL := Lib.hid (show fr.length ≤ 1000 by omega)
 have HTN := Lib.hid (show (fr.take n).length = n by rw [List.length_take]; omega)
 have HCL := Lib.hid (show ch.length + 1 ≤ 1000 by omega)
 have HL8 := Lib.hid hl8
 have HIN := Lib.hid h3
 have HN := Lib.hid hn
 have HFN := Lib.hid hfn
 have HCN := Lib.hid hcn
 have hn16 : n ≤ 16 := by omega
 have hfn0 : 0 < fn := by omega
 have hnfc : n ≤ fc := by omega
 have hnfn : n ≤ fn := h2
 obtain ⟨ic, hic, hcz0, hcz1, hcz2⟩ := info_parts infoCh
 have hbase : Below w.heap.size w (w.alloc (.cells #[.int .i64 0, .slice none 0 0, .int .i64 0] 76)) := (Below.refl _ _).alloc (Nat.le_refl _) _
 have HB0 := Lib.hid hbase
 have HW := Lib.hid hw
 have HW0 := Lib.hid (hw.below hbase)
 have HBF := Lib.hid (hbf.below hbase)
 have HR4 := Lib.hid (heap_alloc_new w (.cells #[.int .i64 0, .slice none 0 0, .int .i64 0] 76))
 have HBB := Lib.hid hB
 have HBS := Lib.hid (show (w.alloc (.cells #[.int .i64 0, .slice none 0 0, .int .i64 0] 76)).heap.size = w.heap.size + 1 by simp)
 clear hw hbf hg h2 h3 hl8 few1 few2 few3 few4 few5 hfn hcn k1 k2 k3 k4 hv1 hv2 hL hb1 hb2 hn hhd hfrow p1 p2 p3 p4 p5 hbase hB
 go_enter Tryz.func26, Tryz.ntmps26
 go_wp2_with fail
 refine wp_region_rec (X := QueChainA) (by kernel_rfl) (by kernel_rfl) (fun x => #[x.b0, x.b1, x.b2, x.b3, x.b4, x.b5, x.b6, x.b7, x.b8, x.b9, x.b10, x.b11, x.b12, x.b13, x.b14, x.b15, x.b16, x.b17, x.b18]) (fun x => { tmps := List.toArray ((.pointer (some ⟨g, 0, none⟩)) :: (.slice (some ⟨gb, 0, none⟩) n bc) :: undef :: undef :: (.pointer (some ⟨w.heap.size, 0, none⟩)) :: x.s5 :: undef :: undef :: x.s8 :: x.s9 :: x.s10 :: x.s11 :: x.s12 :: x.s13 :: x.s14 :: x.s15 :: x.s16 :: x.s17 :: x.s18 :: x.s19 :: x.s20 :: x.s21 :: x.s22 :: x.s23 :: x.s24 :: undef :: undef :: undef :: undef :: undef :: undef :: undef :: undef :: undef :: undef :: undef :: undef :: undef :: undef :: undef :: undef :: undef :: undef :: undef :: undef :: undef :: undef :: undef :: undef :: undef :: undef :: undef :: undef :: undef :: undef :: undef :: undef :: undef :: undef :: undef :: undef :: undef :: undef :: undef :: undef :: []), defers := [] }) (fun x W => (x.b0 = true → x.s8 = .pointer (some ⟨g, 0, none⟩)) ∧ (x.b1 = true → x.s9 = .pointer (some ⟨g, 0, none⟩)) ∧ (x.b2 = true → x.s10 = .pointer (some ⟨g, 0, none⟩)) ∧ (x.b3 = true → x.s11 = .pointer (some ⟨g, 2, none⟩)) ∧ (x.b4 = true → x.s12 = .slice (some ⟨gf, 0, none⟩) fn fc) ∧ (x.b5 = true → x.s13 = .pointer (some ⟨gf, 0, none⟩)) ∧ (x.b6 = true → x.s14 = .int .i64 hd) ∧ (x.b7 = true → x.s15 = .pointer (some ⟨g, 0, none⟩)) ∧ (x.b8 = true → x.s16 = .pointer (some ⟨g, 0, none⟩)) ∧ (x.b9 = true → x.s17 = .pointer (some ⟨g, 0, none⟩)) ∧ (x.b10 = true → x.s18 = .pointer (some ⟨g, 2, none⟩)) ∧ (x.b11 = true → x.s19 = .slice (some ⟨gf, 0, none⟩) fn fc) ∧ (x.b12 = true → x.s20 = .slice (some ⟨gb, 0, none⟩) n bc) ∧ (x.b13 = true → x.s21 = .int .i64 (n : Nat)) ∧ (x.b14 = true → x.s22 = .slice (some ⟨gf, 0, none⟩) n fc) ∧ (x.b18 = true → x.b15 = true ∧ x.b16 = true ∧ x.b17 = true) ∧ (x.b16 = true → x.b15 = true) ∧ (W.heap[g]? = some (.cells #[.int .i64 b, .int .i64 (N : Nat), .slice (some ⟨gf, 0, none⟩) fn fc, .int .u16 (av : Nat), .int .u16 (la : Nat), .slice ca cn cc, .slice va L vc] 74 (0, 0))) ∧ (Below (w.alloc (.cells #[.int .i64 0, .slice none 0 0, .int .i64 0] 76)).heap.size (w.alloc (.cells #[.int .i64 0, .slice none 0 0, .int .i64 0] 76)) W) ∧ (x.b15 = true → ∃ da dc, x.s23 = .slice da n dc ∧ OwnI (w.alloc (.cells #[.int .i64 0, .slice none 0 0, .int .i64 0] 76)).heap.size W (.slice da n dc) (fr.take n)) ∧ (x.b16 = true → ∃ da dc, x.s24 = .agg #[.int .i64 hd, .slice da n dc, .int .i64 0] ∧ OwnI (w.alloc (.cells #[.int .i64 0, .slice none 0 0, .int .i64 0] 76)).heap.size W (.slice da n dc) (fr.take n)) ∧ (x.b18 = false → x.b17 = true → ∃ gx, x.s5 = .pointer (some ⟨gx, 0, none⟩) ∧ (w.alloc (.cells #[.int .i64 0, .slice none 0 0, .int .i64 0] 76)).heap.size ≤ gx ∧ W.heap[gx]? = some (.cells #[.int .i64 0, .slice none 0 0, .int .i64 0] 76 (0, 0))) ∧ (x.b18 = true → ∃ gx da dc, x.s5 = .pointer (some ⟨gx, 0, none⟩) ∧ (w.alloc (.cells #[.int .i64 0, .slice none 0 0, .int .i64 0] 76)).heap.size ≤ gx ∧ W.heap[gx]? = some (.cells #[.int .i64 hd, .slice da n dc, .int .i64 0] 76 (0, 0)) ∧ OwnI (w.alloc (.cells #[.int .i64 0, .slice none 0 0, .int .i64 0] 76)).heap.size W (.slice da n dc) (fr.take n))) ⟨false, false, false, false, false, false, false, false, false, false, false, false, false, false, false, false, false, false, false, undef, undef, undef, undef, undef, undef, undef, undef, undef, undef, undef, undef, undef, undef, undef, undef, undef, undef⟩ rfl rfl ⟨(fun h => by cases h), (fun h => by cases h), (fun h => by cases h), (fun h => by cases h), (fun h => by cases h), (fun h => by cases h), (fun h => by cases h), (fun h => by cases h), (fun h => by cases h), (fun h => by cases h), (fun h => by cases h), (fun h => by cases h), (fun h => by cases h), (fun h => by cases h), (fun h => by cases h), (fun h => by cases h), (fun h => by cases h), HW0.out.row, (Below.refl _ _).drew, (fun h => by cases h), (fun h => by cases h), (fun _ h => by cases h), (fun h => by cases h)⟩ (fun _ => rfl) ?hstep ?hdone
 case hstep =>
  rintro ⟨b0, b1, b2, b3, b4, b5, b6, b7, b8, b9, b10, b11, b12, b13, b14, b15, b16, b17, b18, s8, s9, s10, s11, s12, s13, s14, s15, s16, s17, s18, s19, s20, s21, s22, s23, s24, s5⟩ W hI i hi
  dsimp only at hI hi ⊢
  have HI := Lib.hid hI
  clear hI
  rw [Region.ready, List.mem_filter, List.mem_range] at hi
  obtain ⟨hlt, hp⟩ := hi
  have hi7 : i = 0 ∨ i = 1 ∨ i = 2 ∨ i = 3 ∨ i = 4 ∨ i = 5 ∨ i = 6 ∨ i = 7 ∨ i = 8 ∨ i = 9 ∨ i = 10 ∨ i = 11 ∨ i = 12 ∨ i = 13 ∨ i = 14 ∨ i = 15 ∨ i = 16 ∨ i = 17 ∨ i = 18 := by simp at hlt; omega
  clear hlt
  rcases hi7 with rfl | rfl | rfl | rfl | rfl | rfl | rfl | rfl | rfl | rfl | rfl | rfl | rfl | rfl | rfl | rfl | rfl | rfl | rfl
  all_goals simp [Region.binds] at hp
  · obtain rfl : b0 = false := by revert hp; cases b0 <;> simp
    clear hp
    refine inv_op (o := ⟨some 8, _, _, _, _, _⟩) rfl (fun K' hK' => ?_)
    go_simp
    exact hK'.out _ _ ⟨.mk .., rfl, rfl, (Upd (fun _ => rfl)) HI.out⟩
  · obtain ⟨rfl, e0⟩ : b1 = false ∧ b0 = true := by revert hp; cases b1 <;> cases b0 <;> simp
    clear hp
    obtain rfl := (HI.out.1) e0
    refine inv_op (o := ⟨some 9, _, _, _, _, _⟩) rfl (fun K' hK' => ?_)
    go_simp
    exact hK'.out _ _ ⟨.mk .., rfl, rfl, Nxt (Upd (fun _ => rfl)) HI.out⟩
  · obtain ⟨rfl, e1⟩ : b2 = false ∧ b1 = true := by revert hp; cases b2 <;> cases b1 <;> simp
    clear hp
    obtain rfl := (HI.out.2.1) e1
    refine inv_op (o := ⟨some 10, _, _, _, _, _⟩) rfl (fun K' hK' => ?_)
    go_simp
    exact hK'.out _ _ ⟨.mk .., rfl, rfl, Nxt (Nxt (Upd (fun _ => rfl))) HI.out⟩
  · obtain ⟨rfl, e2⟩ : b3 = false ∧ b2 = true := by revert hp; cases b3 <;> cases b2 <;> simp
    clear hp
    obtain rfl := (HI.out.2.2.1) e2
    refine inv_op (o := ⟨some 11, _, _, _, _, _⟩) rfl (fun K' hK' => ?_)
    go_simp
    exact hK'.out _ _ ⟨.mk .., rfl, rfl, Nxt (Nxt (Nxt (Upd (fun _ => rfl)))) HI.out⟩
  · obtain ⟨rfl, e3⟩ : b4 = false ∧ b3 = true := by revert hp; cases b4 <;> cases b3 <;> simp
    clear hp
    obtain rfl := (HI.out.2.2.2.1) e3
    refine inv_op (o := ⟨some 12, _, _, _, _, _⟩) rfl (fun K' hK' => ?_)
    have rW := HI.out.2.2.2.2.2.2.2.2.2.2.2.2.2.2.2.2.2.1
    obtain ⟨hc2, _⟩ := at_cell rW 2 _ rfl
    go_simp
    exact hK'.out _ _ ⟨.mk .., rfl, rfl, Nx4 (Upd (fun _ => rfl)) HI.out⟩
  · obtain ⟨rfl, e4⟩ : b5 = false ∧ b4 = true := by revert hp; cases b5 <;> cases b4 <;> simp
    clear hp
    obtain rfl := (HI.out.2.2.2.2.1) e4
    refine inv_op (o := ⟨some 13, _, _, _, _, _⟩) rfl (fun K' hK' => ?_)
    go_simp
    exact hK'.out _ _ ⟨.mk .., rfl, rfl, Nxt (Nx4 (Upd (fun _ => rfl))) HI.out⟩
  · obtain ⟨rfl, e5⟩ : b6 = false ∧ b5 = true := by revert hp; cases b6 <;> cases b5 <;> simp
    clear hp
    obtain rfl := (HI.out.2.2.2.2.2.1) e5
    refine inv_op (o := ⟨some 14, _, _, _, _, _⟩) rfl (fun K' hK' => ?_)
    have gB := HI.out.2.2.2.2.2.2.2.2.2.2.2.2.2.2.2.2.2.2.1
    have hc0 := (HW0.out.isq.free.below gB).at 0 HFP.out
    rw [show fr.getD 0 0 = hd from HHD.out] at hc0
    go_simp
    exact hK'.out _ _ ⟨.mk .., rfl, rfl, Nxt (Nxt (Nx4 (Upd (fun _ => rfl)))) HI.out⟩
  · obtain rfl : b7 = false := by revert hp; cases b7 <;> simp
    clear hp
    refine inv_op (o := ⟨some 15, _, _, _, _, _⟩) rfl (fun K' hK' => ?_)
    go_simp
    exact hK'.out _ _ ⟨.mk .., rfl, rfl, Nxt (Nxt (Nxt (Nx4 (Upd (fun _ => rfl))))) HI.out⟩
  · obtain ⟨rfl, e7⟩ : b8 = false ∧ b7 = true := by revert hp; cases b8 <;> cases b7 <;> simp
    clear hp
    obtain rfl := (HI.out.2.2.2.2.2.2.2.1) e7
    refine inv_op (o := ⟨some 16, _, _, _, _, _⟩) rfl (fun K' hK' => ?_)
    go_simp
    exact hK'.out _ _ ⟨.mk .., rfl, rfl, Nx4 (Nx4 (Upd (fun _ => rfl))) HI.out⟩
  · obtain ⟨rfl, e8⟩ : b9 = false ∧ b8 = true := by revert hp; cases b9 <;> cases b8 <;> simp
    clear hp
    obtain rfl := (HI.out.2.2.2.2.2.2.2.2.1) e8
    refine inv_op (o := ⟨some 17, _, _, _, _, _⟩) rfl (fun K' hK' => ?_)
    go_simp
    exact hK'.out _ _ ⟨.mk .., rfl, rfl, Nxt (Nx4 (Nx4 (Upd (fun _ => rfl)))) HI.out⟩
  · obtain ⟨rfl, e9⟩ : b10 = false ∧ b9 = true := by revert hp; cases b10 <;> cases b9 <;> simp
    clear hp
    obtain rfl := (HI.out.2.2.2.2.2.2.2.2.2.1) e9
    refine inv_op (o := ⟨some 18, _, _, _, _, _⟩) rfl (fun K' hK' => ?_)
    go_simp
    exact hK'.out _ _ ⟨.mk .., rfl, rfl, Nxt (Nxt (Nx4 (Nx4 (Upd (fun _ => rfl))))) HI.out⟩
  · obtain ⟨rfl, e10⟩ : b11 = false ∧ b10 = true := by revert hp; cases b11 <;> cases b10 <;> simp
    clear hp
    obtain rfl := (HI.out.2.2.2.2.2.2.2.2.2.2.1) e10
    refine inv_op (o := ⟨some 19, _, _, _, _, _⟩) rfl (fun K' hK' => ?_)
    have rW := HI.out.2.2.2.2.2.2.2.2.2.2.2.2.2.2.2.2.2.1
    obtain ⟨hc2, _⟩ := at_cell rW 2 _ rfl
    go_simp
    exact hK'.out _ _ ⟨.mk .., rfl, rfl, Nxt (Nxt (Nxt (Nx4 (Nx4 (Upd (fun _ => rfl)))))) HI.out⟩
  · obtain rfl : b12 = false := by revert hp; cases b12 <;> simp
    clear hp
    refine inv_op (o := ⟨some 20, _, _, _, _, _⟩) rfl (fun K' hK' => ?_)
    go_simp
    exact hK'.out _ _ ⟨.mk .., rfl, rfl, Nx4 (Nx4 (Nx4 (Upd (fun _ => rfl)))) HI.out⟩
  · obtain ⟨rfl, e12⟩ : b13 = false ∧ b12 = true := by revert hp; cases b13 <;> cases b12 <;> simp
    clear hp
    obtain rfl := (HI.out.2.2.2.2.2.2.2.2.2.2.2.2.1) e12
    refine inv_op (o := ⟨some 21, _, _, _, _, _⟩) rfl (fun K' hK' => ?_)
    go_simp
    exact hK'.out _ _ ⟨.mk .., rfl, rfl, Nxt (Nx4 (Nx4 (Nx4 (Upd (fun _ => rfl))))) HI.out⟩
  · obtain ⟨rfl, e11, e13⟩ : b14 = false ∧ b11 = true ∧ b13 = true := by revert hp; cases b14 <;> cases b11 <;> cases b13 <;> simp
    clear hp
    obtain rfl := (HI.out.2.2.2.2.2.2.2.2.2.2.2.1) e11
    obtain rfl := (HI.out.2.2.2.2.2.2.2.2.2.2.2.2.2.1) e13
    refine inv_op (o := ⟨some 22, _, _, _, _, _⟩) rfl (fun K' hK' => ?_)
    go_simp
    exact hK'.out _ _ ⟨.mk .., rfl, rfl, Nxt (Nxt (Nx4 (Nx4 (Nx4 (Upd (fun _ => rfl)))))) HI.out⟩
  · obtain ⟨rfl, e14⟩ : b15 = false ∧ b14 = true := by revert hp; cases b15 <;> cases b14 <;> simp
    clear hp
    obtain rfl := (HI.out.2.2.2.2.2.2.2.2.2.2.2.2.2.2.1) e14
    refine inv_op (o := ⟨some 23, _, _, _, _, _⟩) rfl (fun K' hK' => ?_)
    have gi18 := HI.out.2.2.2.2.2.2.2.2.2.2.2.2.2.2.2.1
    have gi16 := HI.out.2.2.2.2.2.2.2.2.2.2.2.2.2.2.2.2.1
    have gB := HI.out.2.2.2.2.2.2.2.2.2.2.2.2.2.2.2.2.2.2.1
    have hbf18 : b18 = false := by cases b18 with | false => rfl | true => exact absurd ((gi18 rfl).1) (by decide)
    subst hbf18
    have hbf16 : b16 = false := by cases b16 with | false => rfl | true => exact absurd ((gi16 rfl)) (by decide)
    subst hbf16
    go_simp
    refine (cloneI_front _ _ _ _ n W (HW0.out.isq.free.below gB) HNF.out HFL.out).mono ?_
    rintro e w2 ⟨r, rfl, hr, bn⟩
    obtain ⟨da, dc, hrs, hr1, hr2⟩ := hr.shape
    rw [HTN.out] at hrs
    subst hrs
    clear hr1 hr2
    obtain ⟨h0, h1, h2, h3, h4, h5, h6, h7, h8, h9, h10, h11, h12, h13, h14, gi18, gi16, rW, gB, gD, gE, gA, gS⟩ := HI.out
    exact hK'.out _ _ ⟨.mk .., rfl, rfl, h0, h1, h2, h3, h4, h5, h6, h7, h8, h9, h10, h11, h12, h13, h14, (fun e => by cases e), (fun e => by cases e), (row_keep rW bn), (gB.trans (bn.mono gB.size)), (fun _ => ⟨da, dc, rfl, hr.base gB.size⟩), (fun e => by cases e), (fun e e2 => by obtain ⟨gx, h1, h2, h3⟩ := gA e e2; exact ⟨gx, h1, h2, row_keep h3 bn⟩), (fun e => by cases e)⟩
  · obtain ⟨rfl, e6, e15⟩ : b16 = false ∧ b6 = true ∧ b15 = true := by revert hp; cases b16 <;> cases b6 <;> cases b15 <;> simp
    clear hp
    obtain rfl := (HI.out.2.2.2.2.2.2.1) e6
    refine inv_op (o := ⟨some 24, _, _, _, _, _⟩) rfl (fun K' hK' => ?_)
    have gi18 := HI.out.2.2.2.2.2.2.2.2.2.2.2.2.2.2.2.1
    have gD := HI.out.2.2.2.2.2.2.2.2.2.2.2.2.2.2.2.2.2.2.2.1
    have hbf18 : b18 = false := by cases b18 with | false => rfl | true => exact absurd ((gi18 rfl).2.1) (by decide)
    subst hbf18
    obtain ⟨da, dc, rfl, hp⟩ := gD e15
    go_simp
    obtain ⟨h0, h1, h2, h3, h4, h5, h6, h7, h8, h9, h10, h11, h12, h13, h14, gi18, gi16, rW, gB, gD, gE, gA, gS⟩ := HI.out
    exact hK'.out _ _ ⟨.mk .., rfl, rfl, h0, h1, h2, h3, h4, h5, h6, h7, h8, h9, h10, h11, h12, h13, h14, (fun e => by cases e), (fun _ => e15), rW, gB, (fun _ => ⟨da, dc, rfl, hp⟩), (fun _ => ⟨da, dc, rfl, hp⟩), gA, (fun e => by cases e)⟩
  · obtain rfl : b17 = false := by revert hp; cases b17 <;> simp
    clear hp
    refine inv_op (o := ⟨some 5, _, _, _, _, _⟩) rfl (fun K' hK' => ?_)
    have gi18 := HI.out.2.2.2.2.2.2.2.2.2.2.2.2.2.2.2.1
    have hbf18 : b18 = false := by cases b18 with | false => rfl | true => exact absurd ((gi18 rfl).2.2) (by decide)
    subst hbf18
    have bn : Below W.heap.size W (W.alloc (.cells #[.int .i64 0, .slice none 0 0, .int .i64 0] 76)) := (Below.refl _ _).alloc (Nat.le_refl _) _
    have hn := heap_alloc_new W (.cells #[.int .i64 0, .slice none 0 0, .int .i64 0] 76)
    go_simp
    obtain ⟨h0, h1, h2, h3, h4, h5, h6, h7, h8, h9, h10, h11, h12, h13, h14, gi18, gi16, rW, gB, gD, gE, gA, gS⟩ := HI.out
    exact hK'.out _ _ ⟨.mk .., rfl, rfl, h0, h1, h2, h3, h4, h5, h6, h7, h8, h9, h10, h11, h12, h13, h14, (fun e => by cases e), gi16, (row_keep rW bn), (gB.trans (bn.mono gB.size)), (fun e => by obtain ⟨y0, y1, h1, h2⟩ := gD e; exact ⟨y0, y1, h1, h2.below bn⟩), (fun e => by obtain ⟨y0, y1, h1, h2⟩ := gE e; exact ⟨y0, y1, h1, h2.below bn⟩), (fun _ _ => ⟨_, rfl, gB.size, hn⟩), (fun e => by cases e)⟩
  · have hn18 : b18 = false := by revert hp; cases b18 <;> simp
    have e16 : b16 = true := by revert hp; cases b16 <;> simp
    have e17 : b17 = true := by revert hp; cases b17 <;> simp
    have e15 : b15 = true := by revert hp; cases b15 <;> simp
    clear hp
    subst hn18
    refine inv_op (o := ⟨none, _, _, _, _, _⟩) rfl (fun K' hK' => ?_)
    have gE := HI.out.2.2.2.2.2.2.2.2.2.2.2.2.2.2.2.2.2.2.2.2.1
    have gA := HI.out.2.2.2.2.2.2.2.2.2.2.2.2.2.2.2.2.2.2.2.2.2.1
    obtain ⟨gx, rfl, hlo, hrow⟩ := gA rfl e17
    obtain ⟨da, dc, rfl, hp⟩ := gE e16
    obtain ⟨⟨hc0, hc1, hc2⟩, hz0, hz1, hz2⟩ := cells_three hrow
    have hlx := (Array.getElem?_eq_some_iff.1 hrow).1
    go_simp
    obtain ⟨h0, h1, h2, h3, h4, h5, h6, h7, h8, h9, h10, h11, h12, h13, h14, gi18, gi16, rW, gB, gD, gE, gA, gS⟩ := HI.out
    exact hK'.out _ _ ⟨.mk .., rfl, rfl, h0, h1, h2, h3, h4, h5, h6, h7, h8, h9, h10, h11, h12, h13, h14, (fun _ => ⟨e15, e16, e17⟩), gi16, (one_other (one_other (one_other rW _ _ (blocks_ne rW hrow tChW)) _ _ (blocks_ne rW hrow tChW)) _ _ (blocks_ne rW hrow tChW)), (((gB.setCell (p := ⟨gx, 0, none⟩) hlo _).setCell (p := ⟨gx, 1, none⟩) hlo _).setCell (p := ⟨gx, 2, none⟩) hlo _), (fun e => by obtain ⟨y0, y1, h1, h2⟩ := gD e; exact ⟨y0, y1, h1, ((h2.stay hrow tCI 0 _).stay (row_put hrow 0 _) tCI 1 _).stay (row_put (row_put hrow 0 _) 1 _) tCI 2 _⟩), (fun _ => ⟨da, dc, rfl, ((hp.stay hrow tCI 0 _).stay (row_put hrow 0 _) tCI 1 _).stay (row_put (row_put hrow 0 _) 1 _) tCI 2 _⟩), (fun e => by cases e), (fun _ => ⟨gx, da, dc, rfl, hlo, row_put (row_put (row_put hrow 0 _) 1 _) 2 _, ((hp.stay hrow tCI 0 _).stay (row_put hrow 0 _) tCI 1 _).stay (row_put (row_put hrow 0 _) 1 _) tCI 2 _⟩)⟩
 case hdone =>
  rintro ⟨b0, b1, b2, b3, b4, b5, b6, b7, b8, b9, b10, b11, b12, b13, b14, b15, b16, b17, b18, s8, s9, s10, s11, s12, s13, s14, s15, s16, s17, s18, s19, s20, s21, s22, s23, s24, s5⟩ W hI hall
  dsimp only at hI hall ⊢
  have HI := Lib.hid hI
  clear hI
  obtain rfl : b0 = true := hall 0 (by decide)
  obtain rfl : b1 = true := hall 1 (by decide)
  obtain rfl : b2 = true := hall 2 (by decide)
  obtain rfl : b3 = true := hall 3 (by decide)
  obtain rfl : b4 = true := hall 4 (by decide)
  obtain rfl : b5 = true := hall 5 (by decide)
  obtain rfl : b6 = true := hall 6 (by decide)
  obtain rfl : b7 = true := hall 7 (by decide)
  obtain rfl : b8 = true := hall 8 (by decide)
  obtain rfl : b9 = true := hall 9 (by decide)
  obtain rfl : b10 = true := hall 10 (by decide)
  obtain rfl : b11 = true := hall 11 (by decide)
  obtain rfl : b12 = true := hall 12 (by decide)
  obtain rfl : b13 = true := hall 13 (by decide)
  obtain rfl : b14 = true := hall 14 (by decide)
  obtain rfl : b15 = true := hall 15 (by decide)
  obtain rfl : b16 = true := hall 16 (by decide)
  obtain rfl : b17 = true := hall 17 (by decide)
  obtain rfl : b18 = true := hall 18 (by decide)
  have gB := HI.out.2.2.2.2.2.2.2.2.2.2.2.2.2.2.2.2.2.2.1
  have gS := HI.out.2.2.2.2.2.2.2.2.2.2.2.2.2.2.2.2.2.2.2.2.2.2
  clear HI hall
  obtain ⟨gx, da, dc, rfl, hlo, hrow, hds⟩ := gS rfl
  rw [HBS.out] at hlo hds gB
  have HLO := Lib.hid hlo
  have HX := Lib.hid hrow
  have HD := Lib.hid hds
  have HGB := Lib.hid gB
  clear gS gB hlo hrow hds
  obtain ⟨wo, hwo⟩ : ∃ x, x = W := ⟨_, rfl⟩
  subst hwo
  go_wp2
  go_loopw [27] (fun i wr => ∃ k : Nat, k ≤ n ∧ i = .int .i64 k ∧ wr.heap[gx]? = some (.cells #[.int .i64 hd, .slice da n dc, .int .i64 (roomOf (bs.take k))] 76 (0, 0)) ∧ Below (w.heap.size + 1) (w.alloc (.cells #[.int .i64 0, .slice none 0 0, .int .i64 0] 76)) wr ∧ OwnI (w.heap.size + 1) wr (.slice da n dc) (fr.take n)) (fun i _ => n - (intOf i).toNat)
  case atStart => exact ⟨0, Nat.zero_le _, rfl, HX.out, HGB.out, HD.out⟩
  case round =>
   obtain ⟨k, hk, rfl, hX, hbw, hD⟩ := hrel
   have HXw := Lib.hid hX
   have HBw := Lib.hid hbw
   have HDw := Lib.hid hD
   have hbb : Below (w.alloc (.cells #[.int .i64 0, .slice none 0 0, .int .i64 0] 76)).heap.size (w.alloc (.cells #[.int .i64 0, .slice none 0 0, .int .i64 0] 76)) wr := hbw.mono (by rw [HBS.out]; exact Nat.le_refl _)
   have HWw := Lib.hid (HW0.out.below hbb)
   have HBFw := Lib.hid (HBF.out.below hbb)
   have HR4w := Lib.hid (row_keep HR4.out hbb)
   clear hX hbw hD hbb
   by_cases hlt : k < n
   · obtain ⟨px, py, pt, hx, g0, g1, g2⟩ := HBFw.out.at k (by rw [← HN.out]; exact hlt)
     have hin := in_range _ _ (HIN.out _ (List.mem_of_getElem? hx)) HL8.out
     simp only at hin
     have hrg := roomOf_range (l := bs.take k) (m := 8192) (fun x hx => in_range _ _ (HIN.out x (List.mem_of_mem_take hx)) HL8.out) (by decide)
     have hstep := roomOf_take_succ bs k (by rw [← HN.out]; exact hlt)
     have hgd : bs.getD k (0, 0, false) = (px, py, pt) := by rw [List.getD_eq_getElem?_getD, hx]; rfl
     rw [hgd] at hstep
     obtain ⟨ra, hra⟩ : ∃ x, roomOf (bs.take k) = x := ⟨_, rfl⟩
     obtain ⟨rb, hrb⟩ : ∃ x, roomOf (bs.take (k + 1)) = x := ⟨_, rfl⟩
     rw [hra] at HXw hrg hstep
     rw [hrb] at hstep
     have hkl : ((bs.take k).length : Int) ≤ 16 := by rw [List.length_take]; omega
     have hrl : ra ≤ 8192 * 16 := by have h7 : (8192 : Int) * ((bs.take k).length : Int) ≤ 8192 * 16 := (by omega); omega
     have hr0 : 0 ≤ ra := hrg.1
     obtain ⟨hp0, hp1⟩ := hin
     have HRB := Lib.hid hrb
     have hlen : 0 ≤ (k : Int) ∧ (k : Int) < (n : Int) := by omega
     obtain ⟨hl0, hl1⟩ := hlen
     have HXR := Lib.hid (row_new HXw.out (.cells #[.int .i64 px, .int .i64 py, .bool pt] 39))
     obtain ⟨⟨x0, x1, x2⟩, y0, y1, y2⟩ := cells_three HXR.out
     have hgxl : gx < wr.heap.size := (Array.getElem?_eq_some_iff.1 HXw.out).1
     have HBx := Lib.hid (HBw.out.alloc (by have := HBw.out.size; rw [HBS.out] at this; exact this) (.cells #[.int .i64 px, .int .i64 py, .bool pt] 39))
     have HDx := Lib.hid (HDw.out.below ((Below.refl wr.heap.size wr).alloc (Nat.le_refl _) (.cells #[.int .i64 px, .int .i64 py, .bool pt] 39)))
     clear hx hgd hrg hkl hra hrb
     cases pt with
     | true =>
       have hs2 : ra + py = rb := by rw [hstep]; simp
       have hb0 : 0 ≤ rb ∧ rb ≤ 1000000 := by omega
       obtain ⟨hb3, hb4⟩ := hb0
       clear hstep
       go_wp2
       go_roundw
       case rel =>
        refine ⟨k + 1, by omega, by go_num, ?_, (HBw.out.setCell (p := ⟨gx, 2, none⟩) HLO.out _).alloc (by rw [set_size]; have := HBw.out.size; rw [HBS.out] at this; exact this) _, (HDw.out.stay HXw.out tCI 2 _).below ((Below.refl _ _).alloc (Nat.le_refl _) _)⟩
        rw [HRB.out]
        exact row_new (row_put HXw.out 2 _) _
       case measure => simp [intOf]; omega
     | false =>
       have hs2 : ra = rb := by rw [hstep]; simp
       clear hstep
       go_wp2
       go_roundw
       case rel =>
        refine ⟨k + 1, by omega, by go_num, ?_, HBx.out, HDx.out⟩
        rw [HRB.out, ← hs2]
        exact HXR.out
       case measure => simp [intOf]; omega
   · obtain rfl : n = k := by omega
     rw [show bs.take n = bs by rw [List.take_of_length_le (by rw [← HN.out]; exact Nat.le_refl _)]] at HXw
     obtain ⟨rm, hrm⟩ : ∃ x, roomOf bs = x := ⟨_, rfl⟩
     rw [hrm] at HXw
     have HRM := Lib.hid hrm
     clear hrm
     obtain ⟨⟨l0, l1, l2, l3, l4, l5, l6⟩, z0, z1, z2, z3, z4, z5, z6⟩ := cells_seven HWw.out.row
     have hfr2 := row_keep HFR.out (HB0.out.trans (HBw.out.mono (by omega)))
     go_wp2_with fail
     refine (deleteI_front gf fn fc n fr _ HWw.out.isq.free (by have := HFN.out; omega)).mono ?_
     rintro e w4 ⟨m2, rfl, hF4, ht⟩
     have hW5 := HWw.out.cutF ht hfr2 hF4
     have hg4 := ht.wk HWw.out hfr2 tIW
     have hx4 := ht.row gx _ HXw.out (fun e => by have := HLO.out; have := HGF.out; omega)
     have h44 := ht.row w.heap.size _ HR4w.out (fun e => by have := HGF.out; omega)
     have hd4 := ht.owns HDw.out (fun e => by have h := (HDw.out.lt gf e).1; have := HGF.out; omega)
     have HSP := Lib.hid (((Spare.of_below (T := dirtyQ) (HB0.out.trans (HBw.out.mono (by omega))) HBB.out).trans (Spare.turn ht hfr2 rfl (by have h := HWw.out.isq.free.lt gf rfl; exact h.1))).trans (Spare.set (i := 2) (u := .slice (some ⟨gf, 0, none⟩) m2 fc) hg4 rfl HWw.out.lo))
     have HX5 := Lib.hid (one_other hx4 ⟨g, 2, none⟩ (.slice (some ⟨gf, 0, none⟩) m2 fc) (blocks_ne hx4 hg4 (fun e => tChW e.symm)))
     have H45 := Lib.hid (one_other h44 ⟨g, 2, none⟩ (.slice (some ⟨gf, 0, none⟩) m2 fc) (blocks_ne h44 hg4 (fun e => tChW e.symm)))
     have HD5 := Lib.hid (OwnI.stay hd4 hg4 twI 2 (.slice (some ⟨gf, 0, none⟩) m2 fc))
     have HW5 := Lib.hid hW5
     obtain ⟨⟨j0, j1, j2, j3, j4, j5, j6⟩, o0, o1, o2, o3, o4, o5, o6⟩ := cells_seven hg4
     have hlg4 := (Array.getElem?_eq_some_iff.1 hg4).1
     clear l0 l1 l2 l3 l4 l5 l6 z0 z1 z2 z3 z4 z5 z6 hfr2 hW5 hx4 h44 hd4 hF4 ht hg4
     go_wp2_with fail
     obtain ⟨w5, hw5⟩ : ∃ x, x = w4.setCell ⟨g, 2, none⟩ (.slice (some ⟨gf, 0, none⟩) m2 fc) := ⟨_, rfl⟩
     rw [← hw5] at HX5 H45 HD5 HW5 HSP ⊢
     have HBW5 := Lib.hid (Nat.le_trans HBB.out HSP.out.size)
     clear j0 j1 j2 j3 j4 j5 j6 o0 o1 o2 o3 o4 o5 o6 hlg4 hw5
     refine wp_region_rec (X := QueChainB) (by kernel_rfl) (by kernel_rfl) (fun x => #[x.b0, x.b1, x.b2, x.b3, x.b4, x.b5, x.b6, x.b7, x.b8, x.b9, x.b10, x.b11, x.b12]) (fun x => { tmps := List.toArray ((.pointer (some ⟨g, 0, none⟩)) :: (.slice (some ⟨gb, 0, none⟩) n bc) :: undef :: undef :: (.pointer (some ⟨w.heap.size, 0, none⟩)) :: (.pointer (some ⟨gx, 0, none⟩)) :: undef :: u7 :: s8 :: s9 :: s10 :: s11 :: s12 :: s13 :: s14 :: s15 :: s16 :: s17 :: s18 :: s19 :: s20 :: s21 :: s22 :: s23 :: s24 :: (.slice (some ⟨gb, 0, none⟩) n bc) :: (.int .i64 (n : Nat)) :: (.int .i64 (n : Nat)) :: (.bool false) :: u29 :: u30 :: u31 :: u32 :: u33 :: u34 :: u35 :: u36 :: u37 :: u38 :: u39 :: (.pointer (some ⟨g, 0, none⟩)) :: (.pointer (some ⟨g, 0, none⟩)) :: (.pointer (some ⟨g, 0, none⟩)) :: (.pointer (some ⟨g, 0, none⟩)) :: (.pointer (some ⟨g, 2, none⟩)) :: (.slice (some ⟨gf, 0, none⟩) fn fc) :: (.slice (some ⟨gb, 0, none⟩) n bc) :: (.int .i64 (n : Nat)) :: (.slice (some ⟨gf, 0, none⟩) m2 fc) :: (.pointer (some ⟨g, 0, none⟩)) :: (.pointer (some ⟨g, 0, none⟩)) :: (.pointer (some ⟨g, 2, none⟩)) :: x.s52 :: x.s53 :: x.s54 :: x.s55 :: x.s56 :: x.s57 :: x.s58 :: x.s59 :: x.s60 :: x.s61 :: x.s62 :: x.s63 :: undef :: []), defers := [] }) (fun x W => (x.b0 = true → x.s52 = .pointer (some ⟨g, 0, none⟩)) ∧ (x.b1 = true → x.s53 = .pointer (some ⟨g, 0, none⟩)) ∧ (x.b2 = true → x.s54 = .pointer (some ⟨g, 0, none⟩)) ∧ (x.b3 = true → x.s55 = .pointer (some ⟨g, 0, none⟩)) ∧ (x.b4 = true → x.s56 = .pointer (some ⟨g, 5, none⟩)) ∧ (x.b5 = true → x.s57 = .slice ca cn cc) ∧ (x.b6 = true → x.s58 = .agg #[.int .i64 hd, .slice da n dc, .int .i64 rm]) ∧ (x.b9 = true → x.s61 = .pointer (some ⟨g, 0, none⟩)) ∧ (x.b10 = true → x.s62 = .pointer (some ⟨g, 0, none⟩)) ∧ (x.b11 = true → x.s63 = .pointer (some ⟨g, 5, none⟩)) ∧ (x.b8 = true → x.b5 = true ∧ x.b6 = true ∧ x.b7 = true) ∧ (x.b12 = true → x.b7 = true ∧ x.b8 = true) ∧ (x.b7 = true → x.b6 = true) ∧ (x.b8 = false → Below w5.heap.size w5 W) ∧ (x.b8 = false → x.b7 = true → ∃ gs, x.s59 = .slice (some ⟨gs, 0, none⟩) 1 1 ∧ W.heap[gs]? = some (.cells #[.int .i64 hd, .slice da n dc, .int .i64 rm] 76 (0, 0))) ∧ (x.b12 = false → x.b8 = true → ∃ ca2 cc2 Wp, x.s60 = .slice ca2 (ch.length + 1) cc2 ∧ Below w5.heap.size w5 Wp ∧ Grew B Wp W (.slice ca cn cc) (.slice ca2 (ch.length + 1) cc2) 76 3 (ch.length + 1) (chCells ch D ++ [.int .i64 hd, .slice da n dc, .int .i64 rm])) ∧ (x.b12 = true → ∃ ca2 cc2 Wp w6, W = w6.setCell ⟨g, 5, none⟩ (.slice ca2 (ch.length + 1) cc2) ∧ Below w5.heap.size w5 Wp ∧ Grew B Wp w6 (.slice ca cn cc) (.slice ca2 (ch.length + 1) cc2) 76 3 (ch.length + 1) (chCells ch D ++ [.int .i64 hd, .slice da n dc, .int .i64 rm]))) ⟨false, false, false, false, false, false, false, false, false, false, false, false, false, undef, undef, undef, undef, undef, undef, undef, undef, undef, undef, undef, undef⟩ rfl rfl ⟨(fun h => by cases h), (fun h => by cases h), (fun h => by cases h), (fun h => by cases h), (fun h => by cases h), (fun h => by cases h), (fun h => by cases h), (fun h => by cases h), (fun h => by cases h), (fun h => by cases h), (fun h => by cases h), (fun h => by cases h), (fun h => by cases h), (fun _ => (Below.refl _ _).drew), (fun _ h => by cases h), (fun _ h => by cases h), (fun h => by cases h)⟩ (fun _ => rfl) ?hstep ?hdone
     case hstep =>
      rintro ⟨b0, b1, b2, b3, b4, b5, b6, b7, b8, b9, b10, b11, b12, s52, s53, s54, s55, s56, s57, s58, s59, s60, s61, s62, s63⟩ W hI i hi
      dsimp only at hI hi ⊢
      have HI := Lib.hid hI
      clear hI
      rw [Region.ready, List.mem_filter, List.mem_range] at hi
      obtain ⟨hlt, hp⟩ := hi
      have hi7 : i = 0 ∨ i = 1 ∨ i = 2 ∨ i = 3 ∨ i = 4 ∨ i = 5 ∨ i = 6 ∨ i = 7 ∨ i = 8 ∨ i = 9 ∨ i = 10 ∨ i = 11 ∨ i = 12 := by simp at hlt; omega
      clear hlt
      rcases hi7 with rfl | rfl | rfl | rfl | rfl | rfl | rfl | rfl | rfl | rfl | rfl | rfl | rfl
      all_goals simp [Region.binds] at hp
      · obtain rfl : b0 = false := by revert hp; cases b0 <;> simp
        clear hp
        refine inv_op (o := ⟨some 52, _, _, _, _, _⟩) rfl (fun K' hK' => ?_)
        go_simp
        exact hK'.out _ _ ⟨.mk .., rfl, rfl, (Upd (fun _ => rfl)) HI.out⟩
      · obtain rfl : b1 = false := by revert hp; cases b1 <;> simp
        clear hp
        refine inv_op (o := ⟨some 53, _, _, _, _, _⟩) rfl (fun K' hK' => ?_)
        go_simp
        exact hK'.out _ _ ⟨.mk .., rfl, rfl, Nxt (Upd (fun _ => rfl)) HI.out⟩
      · obtain ⟨rfl, e1⟩ : b2 = false ∧ b1 = true := by revert hp; cases b2 <;> cases b1 <;> simp
        clear hp
        obtain rfl := (HI.out.2.1) e1
        refine inv_op (o := ⟨some 54, _, _, _, _, _⟩) rfl (fun K' hK' => ?_)
        go_simp
        exact hK'.out _ _ ⟨.mk .., rfl, rfl, Nxt (Nxt (Upd (fun _ => rfl))) HI.out⟩
      · obtain ⟨rfl, e2⟩ : b3 = false ∧ b2 = true := by revert hp; cases b3 <;> cases b2 <;> simp
        clear hp
        obtain rfl := (HI.out.2.2.1) e2
        refine inv_op (o := ⟨some 55, _, _, _, _, _⟩) rfl (fun K' hK' => ?_)
        go_simp
        exact hK'.out _ _ ⟨.mk .., rfl, rfl, Nxt (Nxt (Nxt (Upd (fun _ => rfl)))) HI.out⟩
      · obtain ⟨rfl, e3⟩ : b4 = false ∧ b3 = true := by revert hp; cases b4 <;> cases b3 <;> simp
        clear hp
        obtain rfl := (HI.out.2.2.2.1) e3
        refine inv_op (o := ⟨some 56, _, _, _, _, _⟩) rfl (fun K' hK' => ?_)
        go_simp
        exact hK'.out _ _ ⟨.mk .., rfl, rfl, Nx4 (Upd (fun _ => rfl)) HI.out⟩
      · obtain ⟨rfl, e4⟩ : b5 = false ∧ b4 = true := by revert hp; cases b5 <;> cases b4 <;> simp
        clear hp
        obtain rfl := (HI.out.2.2.2.2.1) e4
        refine inv_op (o := ⟨some 57, _, _, _, _, _⟩) rfl (fun K' hK' => ?_)
        have gi8 := HI.out.2.2.2.2.2.2.2.2.2.2.1
        have gB := HI.out.2.2.2.2.2.2.2.2.2.2.2.2.2.1
        have hbf8 : b8 = false := by cases b8 with | false => rfl | true => exact absurd ((gi8 rfl).1) (by decide)
        subst hbf8
        have hc5 := (at_cell (row_keep HW5.out.row (gB rfl)) 5 _ rfl).1
        go_simp
        exact hK'.out _ _ ⟨.mk .., rfl, rfl, Nxt (Nxt (Nx4 (Nx4 (Upd (fun e => by cases e))))) (Nxt (Nx4 (Upd (fun _ => rfl))) HI.out)⟩
      · obtain rfl : b6 = false := by revert hp; cases b6 <;> simp
        clear hp
        refine inv_op (o := ⟨some 58, _, _, _, _, _⟩) rfl (fun K' hK' => ?_)
        have gi8 := HI.out.2.2.2.2.2.2.2.2.2.2.1
        have gi7 := HI.out.2.2.2.2.2.2.2.2.2.2.2.2.1
        have gB := HI.out.2.2.2.2.2.2.2.2.2.2.2.2.2.1
        have hbf8 : b8 = false := by cases b8 with | false => rfl | true => exact absurd ((gi8 rfl).2.1) (by decide)
        subst hbf8
        have hbf7 : b7 = false := by cases b7 with | false => rfl | true => exact absurd ((gi7 rfl)) (by decide)
        subst hbf7
        obtain ⟨⟨hc0, hc1, hc2⟩, _⟩ := cells_three (row_keep HX5.out (gB rfl))
        go_simp
        obtain ⟨h0, h1, h2, h3, h4, h5, h6, h9, h10, h11, gi8, gi12, gi7, gB, gS, gC, gF⟩ := HI.out
        exact hK'.out _ _ ⟨.mk .., rfl, rfl, h0, h1, h2, h3, h4, h5, (fun _ => rfl), h9, h10, h11, (fun e => by cases e), gi12, (fun e => by cases e), gB, gS, gC, gF⟩
      · obtain ⟨rfl, e6⟩ : b7 = false ∧ b6 = true := by revert hp; cases b7 <;> cases b6 <;> simp
        clear hp
        obtain rfl := (HI.out.2.2.2.2.2.2.1) e6
        refine inv_op (o := ⟨some 59, _, _, _, _, _⟩) rfl (fun K' hK' => ?_)
        have gi8 := HI.out.2.2.2.2.2.2.2.2.2.2.1
        have gi12 := HI.out.2.2.2.2.2.2.2.2.2.2.2.1
        have hbf8 : b8 = false := by cases b8 with | false => rfl | true => exact absurd ((gi8 rfl).2.2) (by decide)
        subst hbf8
        have hbf12 : b12 = false := by cases b12 with | false => rfl | true => exact absurd ((gi12 rfl).1) (by decide)
        subst hbf12
        have bn : Below W.heap.size W (W.alloc (.cells #[.int .i64 hd, .slice da n dc, .int .i64 rm] 76)) := (Below.refl _ _).alloc (Nat.le_refl _) _
        have hn := heap_alloc_new W (.cells #[.int .i64 hd, .slice da n dc, .int .i64 rm] 76)
        go_simp
        obtain ⟨h0, h1, h2, h3, h4, h5, h6, h9, h10, h11, gi8, gi12, gi7, gB, gS, gC, gF⟩ := HI.out
        exact hK'.out _ _ ⟨.mk .., rfl, rfl, h0, h1, h2, h3, h4, h5, h6, h9, h10, h11, (fun e => by cases e), (fun e => by cases e), (fun _ => e6), (fun e => (gB e).trans (bn.mono (gB e).size)), (fun _ _ => ⟨_, rfl, hn⟩), (fun _ e => by cases e), (fun e => by cases e)⟩
      · obtain ⟨rfl, e5, e7⟩ : b8 = false ∧ b5 = true ∧ b7 = true := by revert hp; cases b8 <;> cases b5 <;> cases b7 <;> simp
        clear hp
        obtain rfl := (HI.out.2.2.2.2.2.1) e5
        refine inv_op (o := ⟨some 60, _, _, _, _, _⟩) rfl (fun K' hK' => ?_)
        have gi12 := HI.out.2.2.2.2.2.2.2.2.2.2.2.1
        have gB := HI.out.2.2.2.2.2.2.2.2.2.2.2.2.2.1
        have gS := HI.out.2.2.2.2.2.2.2.2.2.2.2.2.2.2.1
        have hbf12 : b12 = false := by cases b12 with | false => rfl | true => exact absurd ((gi12 rfl).2) (by decide)
        subst hbf12
        obtain ⟨gs, rfl, hs⟩ := gS rfl e7
        obtain ⟨⟨hc0, hc1, hc2⟩, _⟩ := cells_three hs
        refine step_append_grew W rfl (.tmp 57) (.tmp 59) 28 rfl B 76 ic (.agg #[.int .i64 0, .slice none 0 0, .int .i64 0]) 3 40 Tryz.underlying28 hic hcz0 hcz1 hcz2 rfl (by decide) (by decide) _ _ _ rfl (HW5.out.isq.chains.below (gB rfl)).row ⟨gs, 0, none⟩ 1 1 [.int .i64 hd, .slice da n dc, .int .i64 rm] rfl rfl (three_news hc0 hc1 hc2) (three_one _ _ _ _ _) HCL.out (Nat.le_trans HBW5.out (gB rfl).size) ?_
        intro C2 w2 hgr
        obtain ⟨ca2, cc2, rfl, hq1, hq2⟩ := owns_slice hgr.own
        clear hq1 hq2
        have hgb := gB rfl
        obtain ⟨h0, h1, h2, h3, h4, h5, h6, h9, h10, h11, gi8, gi12, gi7, gB, gS, gC, gF⟩ := HI.out
        exact hK'.out _ _ ⟨.mk .., rfl, rfl, h0, h1, h2, h3, h4, h5, h6, h9, h10, h11, (fun _ => ⟨e5, (gi7 e7), e7⟩), (fun e => by cases e), gi7, (fun e => by cases e), (fun e => by cases e), (fun _ _ => ⟨ca2, cc2, W, rfl, hgb, hgr⟩), (fun e => by cases e)⟩
      · obtain ⟨rfl, e0⟩ : b9 = false ∧ b0 = true := by revert hp; cases b9 <;> cases b0 <;> simp
        clear hp
        obtain rfl := (HI.out.1) e0
        refine inv_op (o := ⟨some 61, _, _, _, _, _⟩) rfl (fun K' hK' => ?_)
        go_simp
        exact hK'.out _ _ ⟨.mk .., rfl, rfl, Nxt (Nxt (Nxt (Nx4 (Upd (fun _ => rfl))))) HI.out⟩
      · obtain ⟨rfl, e9⟩ : b10 = false ∧ b9 = true := by revert hp; cases b10 <;> cases b9 <;> simp
        clear hp
        obtain rfl := (HI.out.2.2.2.2.2.2.2.1) e9
        refine inv_op (o := ⟨some 62, _, _, _, _, _⟩) rfl (fun K' hK' => ?_)
        go_simp
        exact hK'.out _ _ ⟨.mk .., rfl, rfl, Nx4 (Nx4 (Upd (fun _ => rfl))) HI.out⟩
      · obtain ⟨rfl, e10⟩ : b11 = false ∧ b10 = true := by revert hp; cases b11 <;> cases b10 <;> simp
        clear hp
        obtain rfl := (HI.out.2.2.2.2.2.2.2.2.1) e10
        refine inv_op (o := ⟨some 63, _, _, _, _, _⟩) rfl (fun K' hK' => ?_)
        go_simp
        exact hK'.out _ _ ⟨.mk .., rfl, rfl, Nxt (Nx4 (Nx4 (Upd (fun _ => rfl)))) HI.out⟩
      · have hn12 : b12 = false := by revert hp; cases b12 <;> simp
        have e8 : b8 = true := by revert hp; cases b8 <;> simp
        have e11 : b11 = true := by revert hp; cases b11 <;> simp
        have e7 : b7 = true := by revert hp; cases b7 <;> simp
        clear hp
        obtain rfl := (HI.out.2.2.2.2.2.2.2.2.2.1) e11
        subst hn12
        refine inv_op (o := ⟨none, _, _, _, _, _⟩) rfl (fun K' hK' => ?_)
        have gC := HI.out.2.2.2.2.2.2.2.2.2.2.2.2.2.2.2.1
        obtain ⟨ca2, cc2, Wp, rfl, hbp, hgr⟩ := gC rfl e8
        obtain ⟨⟨hc0, hc1, hc2, hc3, hc4, hc5, hc6⟩, hz0, hz1, hz2, hz3, hz4, hz5, hz6⟩ := cells_seven (hgr.other (HW5.out.isq.chains.below hbp).row (row_keep HW5.out.row hbp) twC)
        have hlx := (Array.getElem?_eq_some_iff.1 (hgr.other (HW5.out.isq.chains.below hbp).row (row_keep HW5.out.row hbp) twC)).1
        go_simp
        obtain ⟨h0, h1, h2, h3, h4, h5, h6, h9, h10, h11, gi8, gi12, gi7, gB, gS, gC, gF⟩ := HI.out
        exact hK'.out _ _ ⟨.mk .., rfl, rfl, h0, h1, h2, h3, h4, h5, h6, h9, h10, h11, gi8, (fun _ => ⟨e7, e8⟩), gi7, (fun e => absurd (e8.symm.trans e) (by decide)), (fun e => absurd (e8.symm.trans e) (by decide)), (fun e => by cases e), (fun _ => ⟨ca2, cc2, Wp, W, rfl, hbp, hgr⟩)⟩
     case hdone =>
      rintro ⟨b0, b1, b2, b3, b4, b5, b6, b7, b8, b9, b10, b11, b12, s52, s53, s54, s55, s56, s57, s58, s59, s60, s61, s62, s63⟩ W hI hall
      dsimp only at hI hall ⊢
      have HI := Lib.hid hI
      clear hI
      obtain rfl : b0 = true := hall 0 (by decide)
      obtain rfl : b1 = true := hall 1 (by decide)
      obtain rfl : b2 = true := hall 2 (by decide)
      obtain rfl : b3 = true := hall 3 (by decide)
      obtain rfl : b4 = true := hall 4 (by decide)
      obtain rfl : b5 = true := hall 5 (by decide)
      obtain rfl : b6 = true := hall 6 (by decide)
      obtain rfl : b7 = true := hall 7 (by decide)
      obtain rfl : b8 = true := hall 8 (by decide)
      obtain rfl : b9 = true := hall 9 (by decide)
      obtain rfl : b10 = true := hall 10 (by decide)
      obtain rfl : b11 = true := hall 11 (by decide)
      obtain rfl : b12 = true := hall 12 (by decide)
      have gF := HI.out.2.2.2.2.2.2.2.2.2.2.2.2.2.2.2.2
      clear HI hall
      obtain ⟨ca2, cc2, Wp, w6, rfl, hbp, hgr⟩ := gF rfl
      have hcb : ∀ p, (Value.slice ca cn cc).ownBlock = some p → p < w.heap.size := fun p hp => (HW.out.isq.chains.row.lt p hp).2
      have hcb2 : ∀ p, p ≤ w5.heap.size → w.heap.size ≤ p → p < w5.heap.size → (Value.slice ca2 (ch.length + 1) cc2).ownBlock ≠ some p := fun p _ h1 h2 e => by
       rcases hgr.blk p e with e | e
       · have := hcb p e; omega
       · have := hbp.size; omega
      have hW6 := WorkB.push (c := ⟨hd, fr.take n, rm⟩) (HW5.out.below hbp) hgr ((HD5.out.below hbp).base (by have := HBB.out; omega)) (fun p hp e => by
       have h1 := (HD5.out.lt p hp).1
       have h2 : gf = p := by simpa [Value.ownBlock] using e
       have := HGF.out
       omega)
      have hwr := hgr.other (HW5.out.isq.chains.below hbp).row (row_keep HW5.out.row hbp) twC
      have hgxb := (Array.getElem?_eq_some_iff.1 HX5.out).1
      have hrb4 := (Array.getElem?_eq_some_iff.1 H45.out).1
      have hx6 := hgr.row gx _ (row_keep HX5.out hbp) (fun e => by have := hcb gx e; have := HLO.out; omega)
      have h46 := hgr.row w.heap.size _ (row_keep H45.out hbp) (fun e => by have := hcb _ e; omega)
      have hd6 := owns_keep (HD5.out.below hbp) fun k' c' _ hk' => hgr.other (HW5.out.isq.chains.below hbp).row hk' tIC
      have hsp6 := ((HSP.out.trans (Spare.of_below hbp HBW5.out _)).trans (Spare.grew (T := dirtyQ) hgr (HW5.out.isq.chains.below hbp).row rfl)).trans (Spare.set (i := 5) (u := .slice ca2 (ch.length + 1) cc2) hwr rfl HW5.out.lo)
      have HX7 := Lib.hid (one_other hx6 ⟨g, 5, none⟩ (.slice ca2 (ch.length + 1) cc2) (blocks_ne hx6 hwr (fun e => tChW e.symm)))
      have H47 := Lib.hid (one_other h46 ⟨g, 5, none⟩ (.slice ca2 (ch.length + 1) cc2) (blocks_ne h46 hwr (fun e => tChW e.symm)))
      have HD7 := Lib.hid (OwnI.stay hd6 hwr twI 5 (.slice ca2 (ch.length + 1) cc2))
      have HSP7 := Lib.hid hsp6
      have HW7 := Lib.hid hW6
      have HCN7 := Lib.hid (hcb2 w.heap.size (Nat.le_of_lt hrb4) (Nat.le_refl _) hrb4)
      obtain ⟨w7, hw7⟩ : ∃ x, x = w6.setCell ⟨g, 5, none⟩ (.slice ca2 (ch.length + 1) cc2) := ⟨_, rfl⟩
      rw [← hw7] at HX7 H47 HD7 HSP7 HW7 ⊢
      clear gF hbp hgr hcb hcb2 hW6 hwr hgxb hrb4 hx6 h46 hd6 hsp6 hw7
      obtain ⟨⟨x0, x1, x2⟩, _⟩ := cells_three HX7.out
      obtain ⟨⟨r0, r1, r2⟩, z0, z1, z2⟩ := cells_three H47.out
      have hl4 := (Array.getElem?_eq_some_iff.1 H47.out).1
      go_wp2
      have HR7 := HRM.out
      refine bodyPost_ret (v := .agg #[.int .i64 hd, .slice da n dc, .int .i64 rm]) (by simp [results, Tryz.results26, go_sem, r0, r1, r2]) rfl ⟨.slice (some ⟨gf, 0, none⟩) m2 fc, .slice ca2 (ch.length + 1) cc2, .slice da n dc, by rw [HR7], ?_, ?_, ?_⟩
      · rw [HR7]
        exact ((HW7.out.awayC H47.out HCN7.out 0 _).awayC (row_put H47.out 0 _) HCN7.out 1 _).awayC (row_put (row_put H47.out 0 _) 1 _) HCN7.out 2 _
      · exact (((HD7.out.stay H47.out tCI 0 _).stay (row_put H47.out 0 _) tCI 1 _).stay (row_put (row_put H47.out 0 _) 1 _) tCI 2 _).base (by have := HBB.out; omega)
      · exact ((HSP7.out.trans (Spare.set H47.out rfl HBB.out 0 _)).trans (Spare.set (row_put H47.out 0 _) rfl HBB.out 1 _)).trans (Spare.set (row_put (row_put H47.out 0 _) 1 _) rfl HBB.out 2 _)
end Go.Proofs.YtnmekbbnglkmcaaGreat
