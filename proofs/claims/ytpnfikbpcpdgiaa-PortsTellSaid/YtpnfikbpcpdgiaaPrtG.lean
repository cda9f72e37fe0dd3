/- The contracts with what is answered by name: ports, whose pool has this length, and a number. -/
import Derived.Test.YtpnfikbpcpdgiaaPrtF
import Derived.Test.YtpnfikbpcpdgiaaPrtE
namespace Go.Proofs.Ytpnfikbpcpdgiaa
open Go.RowKit Go.Lib

def Ans (w0 w : World) (L M T k : Nat) (l : List UInt8) (F : Int) (e : Ending) (w' : World) : Prop :=
  ∃ a c, e = .returned (.tuple #[.agg #[.int .u32 (L : Nat), .int .u32 (M : Nat), .int .u64 (T : Nat), .slice a k c], .int .i64 F]) ∧ Firm w0 w' (.slice a k c) l ∧ Below w.heap.size w w'
theorem Told.ans {w0 w w' : World} {L M T k : Nat} {l : List UInt8} {F : Int} {e : Ending} (hw : Below w0.heap.size w0 w) (hk : l.length = k) (h : Told w0 w L M T l F e w') : Ans w0 w L M T k l F e w' := by
  obtain ⟨r, h1, h2, h3⟩ := h
  obtain ⟨a, n, c, rfl, hn⟩ := (h2.arg (hw.trans (h3.mono hw.size))).shape3
  rw [hk] at hn
  subst hn
  exact ⟨a, c, h1, h2, h3⟩
def Ans2 (w0 w : World) (L M T k : Nat) (l : List UInt8) (j : Nat) (q : List UInt8) (F : Int) (e : Ending) (w' : World) : Prop :=
  ∃ a c b d, e = .returned (.tuple #[.agg #[.int .u32 (L : Nat), .int .u32 (M : Nat), .int .u64 (T : Nat), .slice a k c], .slice b j d, .int .i64 F]) ∧ Firm w0 w' (.slice a k c) l ∧ Firm w0 w' (.slice b j d) q ∧ Below w.heap.size w w'
theorem Told2.ans {w0 w w' : World} {L M T k j : Nat} {l q : List UInt8} {F : Int} {e : Ending} (hw : Below w0.heap.size w0 w) (hk : l.length = k) (hj : q.length = j) (h : Told2 w0 w L M T l q F e w') : Ans2 w0 w L M T k l j q F e w' := by
  obtain ⟨r, s, h1, h2, h4, h3⟩ := h
  obtain ⟨a, n, c, rfl, hn⟩ := (h2.arg (hw.trans (h3.mono hw.size))).shape3
  obtain ⟨b, m, d, rfl, hm⟩ := (h4.arg (hw.trans (h3.mono hw.size))).shape3
  rw [hk] at hn
  rw [hj] at hm
  subst hn
  subst hm
  exact ⟨a, c, b, d, h1, h2, h4, h3⟩
theorem raise_this (L M T : Nat) (hL : L < 4294967296) (l : List UInt8) (k : Nat) (hk : l.length = k) (hl : l.length ≤ 140737488355328) (z : Int) (F : Int) (hF : lineP T l.length z = F) (m : Nat) (hm : raiseP L T l.length z = m) (w0 w : World) (hw : Below w0.heap.size w0 w) (v : Value) (hv : IsArg w v l) :
    Calls Try.prog 10 #[.agg #[.int .u32 (L : Nat), .int .u32 (M : Nat), .int .u64 (T : Nat), v], .int .i64 z] w (Ans w0 w m M T k l F) :=
  (raise_any L M T hL v l w hv hl z F hF m hm).mono fun _ _ h => h.told.ans hw hk
theorem refRaise_this (L M T : Nat) (hL : L < 4294967296) (l : List UInt8) (k : Nat) (hk : l.length = k) (z : Int) (F : Int) (hF : lineP T l.length z = F) (m : Nat) (hm : raiseP L T l.length z = m) (w0 w : World) (hw : Below w0.heap.size w0 w) (v : Value) (hv : IsArg w0 v l) :
    Calls Try.prog 11 #[.agg #[.int .u32 (L : Nat), .int .u32 (M : Nat), .int .u64 (T : Nat), v], .int .i64 z] w (Ans w0 w m M T k l F) :=
  (refRaise_any L M T hL v l w0 w hv hw z F hF m hm).mono fun _ _ h => h.ans hw hk
theorem done_this (L M T : Nat) (hL : L < 4294967296) (l : List UInt8) (k : Nat) (hk : l.length = k) (hl : l.length ≤ 140737488355328) (z : Int) (F : Int) (hF : lineP T l.length z = F) (m : Nat) (hm : doneP L T l.length z = m) (w0 w : World) (hw : Below w0.heap.size w0 w) (v : Value) (hv : IsArg w v l) :
    Calls Try.prog 9 #[.agg #[.int .u32 (L : Nat), .int .u32 (M : Nat), .int .u64 (T : Nat), v], .int .i64 z] w (Ans w0 w m M T k l F) :=
  (done_any L M T hL v l w hv hl z F hF m hm).mono fun _ _ h => h.told.ans hw hk
theorem refDone_this (L M T : Nat) (hL : L < 4294967296) (l : List UInt8) (k : Nat) (hk : l.length = k) (z : Int) (F : Int) (hF : lineP T l.length z = F) (m : Nat) (hm : doneP L T l.length z = m) (w0 w : World) (hw : Below w0.heap.size w0 w) (v : Value) (hv : IsArg w0 v l) :
    Calls Try.prog 15 #[.agg #[.int .u32 (L : Nat), .int .u32 (M : Nat), .int .u64 (T : Nat), v], .int .i64 z] w (Ans w0 w m M T k l F) :=
  (refDone_any L M T hL v l w0 w hv hw z F hF m hm).mono fun _ _ h => h.ans hw hk
theorem hear_this (L M T : Nat) (hM : M < 4294967296) (l : List UInt8) (k : Nat) (hk : l.length = k) (hl : l.length ≤ 140737488355328) (z : Int) (on : Bool) (F : Int) (hF : lineP T l.length z = F) (m : Nat) (hm : hearP M T l.length z on = m) (w0 w : World) (hw : Below w0.heap.size w0 w) (v : Value) (hv : IsArg w v l) :
    Calls Try.prog 13 #[.agg #[.int .u32 (L : Nat), .int .u32 (M : Nat), .int .u64 (T : Nat), v], .int .i64 z, .bool on] w (Ans w0 w L m T k l F) :=
  (hear_any L M T hM v l w hv hl z on F hF m hm).mono fun _ _ h => h.told.ans hw hk
theorem refHear_this (L M T : Nat) (hM : M < 4294967296) (l : List UInt8) (k : Nat) (hk : l.length = k) (z : Int) (on : Bool) (F : Int) (hF : lineP T l.length z = F) (m : Nat) (hm : hearP M T l.length z on = m) (w0 w : World) (hw : Below w0.heap.size w0 w) (v : Value) (hv : IsArg w0 v l) :
    Calls Try.prog 14 #[.agg #[.int .u32 (L : Nat), .int .u32 (M : Nat), .int .u64 (T : Nat), v], .int .i64 z, .bool on] w (Ans w0 w L m T k l F) :=
  (refHear_any L M T hM v l w0 w hv hw z on F hF m hm).mono fun _ _ h => h.ans hw hk
theorem tick_this (L M T : Nat)  (l : List UInt8) (k : Nat) (hk : l.length = k) (hl : l.length ≤ 140737488355328) (t : Nat) (F : Int) (hF : tickP T l.length t = F) (m : Nat) (hm : tickT T l.length t = m) (w0 w : World) (hw : Below w0.heap.size w0 w) (v : Value) (hv : IsArg w v l) :
    Calls Try.prog 16 #[.agg #[.int .u32 (L : Nat), .int .u32 (M : Nat), .int .u64 (T : Nat), v], .int .u64 (t : Nat)] w (Ans w0 w L M m k l F) :=
  (tick_any L M T  v l w hv hl t F hF m hm).mono fun _ _ h => h.told.ans hw hk
theorem refTick_this (L M T : Nat)  (l : List UInt8) (k : Nat) (hk : l.length = k) (t : Nat) (F : Int) (hF : tickP T l.length t = F) (m : Nat) (hm : tickT T l.length t = m) (w0 w : World) (hw : Below w0.heap.size w0 w) (v : Value) (hv : IsArg w0 v l) :
    Calls Try.prog 17 #[.agg #[.int .u32 (L : Nat), .int .u32 (M : Nat), .int .u64 (T : Nat), v], .int .u64 (t : Nat)] w (Ans w0 w L M m k l F) :=
  (refTick_any L M T  v l w0 w hv hw t F hF m hm).mono fun _ _ h => h.ans hw hk
theorem fill_this (L M T : Nat) (l : List UInt8) (hl : l.length ≤ 140737488355328) (q : List UInt8) (hq : q.length ≤ 140737488355328) (F : Int) (hF : fillP T l.length q.length = F) (g : List UInt8) (hg : fillL T l q = g) (k : Nat) (hk : g.length = k) (w0 w : World) (hw : Below w0.heap.size w0 w) (v : Value) (hv : IsArg w v l) (u : Value) (hu : IsArg w u q) :
    Calls Try.prog 18 #[.agg #[.int .u32 (L : Nat), .int .u32 (M : Nat), .int .u64 (T : Nat), v], u] w (Ans w0 w L M T k g F) :=
  (fill_any L M T v l w hv hl u q hu hq F hF g hg).mono fun _ _ h => h.told.ans hw hk
theorem refFill_this (L M T : Nat) (l : List UInt8) (hl : l.length ≤ 140737488355328) (q : List UInt8) (F : Int) (hF : fillP T l.length q.length = F) (g : List UInt8) (hg : fillL T l q = g) (k : Nat) (hk : g.length = k) (w0 w : World) (hw : Below w0.heap.size w0 w) (v : Value) (hv : IsArg w0 v l) (u : Value) (hu : IsArg w u q) :
    Calls Try.prog 19 #[.agg #[.int .u32 (L : Nat), .int .u32 (M : Nat), .int .u64 (T : Nat), v], u] w (Ans w0 w L M T k g F) :=
  (refFill_any L M T v l w0 w hv hw hl u q hu F hF g hg).mono fun _ _ h => h.ans hw hk
theorem draw_this (L M T : Nat) (l : List UInt8) (hl : l.length ≤ 140737488355328) (z : Int) (F : Int) (hF : drawP T l.length z = F) (g : List UInt8) (hg : leftL T l z = g) (k : Nat) (hk : g.length = k) (q : List UInt8) (hq : takenL T l z = q) (j : Nat) (hj : q.length = j) (w0 w : World) (hw : Below w0.heap.size w0 w) (v : Value) (hv : IsArg w v l) :
    Calls Try.prog 20 #[.agg #[.int .u32 (L : Nat), .int .u32 (M : Nat), .int .u64 (T : Nat), v], .int .i64 z] w (Ans2 w0 w L M T k g j q F) :=
  (draw_any L M T v l w hv hl z F hF g q hg hq).mono fun _ _ h => h.told.ans hw hk hj
theorem refDraw_this (L M T : Nat) (l : List UInt8) (z : Int) (F : Int) (hF : drawP T l.length z = F) (g : List UInt8) (hg : leftL T l z = g) (k : Nat) (hk : g.length = k) (q : List UInt8) (hq : takenL T l z = q) (j : Nat) (hj : q.length = j) (w0 w : World) (hw : Below w0.heap.size w0 w) (v : Value) (hv : IsArg w0 v l) :
    Calls Try.prog 21 #[.agg #[.int .u32 (L : Nat), .int .u32 (M : Nat), .int .u64 (T : Nat), v], .int .i64 z] w (Ans2 w0 w L M T k g j q F) :=
  (refDraw_any L M T v l w0 w hv hw z F hF g q hg hq).mono fun _ _ h => h.ans hw hk hj
end Go.Proofs.Ytpnfikbpcpdgiaa
