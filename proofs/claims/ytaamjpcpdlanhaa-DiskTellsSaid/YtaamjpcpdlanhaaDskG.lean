/- The contracts with what is answered by name. -/
import Derived.Test.YtaamjpcpdlanhaaDskM
import Derived.Test.YtaamjpcpdlanhaaDskW
import Derived.Test.YtaamjpcpdlanhaaDskZ
import Derived.Test.YtaamjpcpdlanhaaDskE
import Derived.Test.YtaamjpcpdlanhaaDskO
import Derived.Test.YtaamjpcpdlanhaaDskF
namespace Go.Proofs.Ytaamjpcpdlanhaa
open Go.RowKit Go.Lib

/-- What is answered: a disk, and a number. -/
def Answers (w : World) (F : Int) (S : List (List UInt8)) (C : List (Int × List UInt8)) (n m : Nat) (e : Ending) (w' : World) : Prop :=
  ∃ a ca a1 c1, e = .returned (.tuple #[.agg #[.slice a n ca, .slice a1 m c1], .int .i64 F]) ∧ IsDisk w' (.slice a n ca) (.slice a1 m c1) S C ∧ Below w.heap.size w w'
theorem answers_of {w w' : World} {F F' : Int} {S S' : List (List UInt8)} {C C' : List (Int × List UInt8)} {n m : Nat} {e : Ending} (hF : F = F') (hS : S = S') (hC : C = C') (hn : S'.length = n) (hm : C'.length = m)
    (h : ∃ sv cv, e = .returned (.tuple #[.agg #[sv, cv], .int .i64 F]) ∧ IsDisk w' sv cv S C ∧ Below w.heap.size w w') : Answers w F' S' C' n m e w' := by
  obtain ⟨sv, cv, h1, h2, h3⟩ := h
  subst hF
  subst hS
  subst hC
  obtain ⟨a, ca, a1, c1, rfl, rfl, _, _⟩ := h2.shape
  subst hn
  subst hm
  exact ⟨a, ca, a1, c1, h1, h2, h3⟩
theorem new_this (z : Int) (F : Int) (Z : List (List UInt8)) (n : Nat) (hF : newFault z = F) (hZ : newOf z = Z) (hn : Z.length = n) (w : World) :
    Calls Try.prog 22 #[.int .i64 z] w (Answers w F Z [] n 0) :=
  (new_any z w).mono fun _ _ ⟨sv, h1, h2, h3⟩ => answers_of hF hZ rfl hn rfl ⟨sv, _, h1, ⟨h2, writes_nil _⟩, h3⟩
theorem flush_this (s c : Value) (S : List (List UInt8)) (C : List (Int × List UInt8)) (hf : FewD S C) (F : Int) (S2 : List (List UInt8)) (C2 : List (Int × List UInt8)) (n m : Nat) (hF : formOf S C = F) (hS : flushOf S C every = S2) (hC : cacheOf S C = C2) (hn : S2.length = n) (hm : C2.length = m) (w : World) (hd : IsDisk w s c S C) :
    Calls Try.prog 10 #[.agg #[s, c]] w (Answers w F S2 C2 n m) :=
  (flush_any s c S C w hd hf).mono fun _ _ h => answers_of hF hS hC hn hm h
theorem crash_this (s c : Value) (S : List (List UInt8)) (C : List (Int × List UInt8)) (hf : FewD S C) (kv : Value) (l : List Bool) (F : Int) (S2 : List (List UInt8)) (C2 : List (Int × List UInt8)) (n m : Nat) (hF : formOf S C = F) (hS : flushOf S C (keptT l) = S2) (hC : cacheOf S C = C2) (hn : S2.length = n) (hm : C2.length = m) (w : World) (hd : IsDisk w s c S C) (hv : IsFlags w kv l) :
    Calls Try.prog 11 #[.agg #[s, c], kv] w (Answers w F S2 C2 n m) :=
  (crash_any s c S C w hd hf kv l hv).mono fun _ _ h => answers_of hF hS hC hn hm h
theorem refFlush_this (s c : Value) (S : List (List UInt8)) (C : List (Int × List UInt8))  (F : Int) (S2 : List (List UInt8)) (C2 : List (Int × List UInt8)) (n m : Nat) (hF : formOf S C = F) (hS : flushOf S C every = S2) (hC : cacheOf S C = C2) (hn : S2.length = n) (hm : C2.length = m) (w : World) (hd : IsDisk w s c S C) :
    Calls Try.prog 18 #[.agg #[s, c]] w (Answers w F S2 C2 n m) :=
  (refFlush_any s c S C w hd).mono fun _ _ h => answers_of hF hS hC hn hm h
theorem refCrash_this (s c : Value) (S : List (List UInt8)) (C : List (Int × List UInt8)) (kv : Value) (l : List Bool) (F : Int) (S2 : List (List UInt8)) (C2 : List (Int × List UInt8)) (n m : Nat) (hF : formOf S C = F) (hS : flushOf S C (keptT l) = S2) (hC : cacheOf S C = C2) (hn : S2.length = n) (hm : C2.length = m) (w : World) (hd : IsDisk w s c S C) (hv : IsFlags w kv l) :
    Calls Try.prog 19 #[.agg #[s, c], kv] w (Answers w F S2 C2 n m) :=
  (refCrash_any s c S C w hd kv l hv).mono fun _ _ h => answers_of hF hS hC hn hm h
theorem write_this (s c : Value) (S : List (List UInt8)) (C : List (Int × List UInt8)) (hf : FewD S C) (z : Int) (V : Value) (l : List UInt8) (hl : l.length ≤ 100000) (F : Int) (S2 : List (List UInt8)) (C2 : List (Int × List UInt8)) (n m : Nat) (hF : wFault S C z l.length = F) (hS : S = S2) (hC : writeOf S C z l = C2) (hn : S2.length = n) (hm : C2.length = m) (w : World) (hd : IsDisk w s c S C) (hV : IsArg w V l) :
    Calls Try.prog 16 #[.agg #[s, c], .int .i64 z, V] w (Answers w F S2 C2 n m) :=
  (write_any s c S C w hd hf z V l hV hl _ rfl).mono fun _ _ h => answers_of hF hS hC hn hm h
theorem tamper_this (s c : Value) (S : List (List UInt8)) (C : List (Int × List UInt8)) (hf : FewD S C) (z p : Int) (y : UInt8) (F : Int) (S2 : List (List UInt8)) (C2 : List (Int × List UInt8)) (n m : Nat) (hF : tFault S C z p = F) (hS : tamperOf S C z p y = S2) (hC : C = C2) (hn : S2.length = n) (hm : C2.length = m) (w : World) (hd : IsDisk w s c S C) :
    Calls Try.prog 20 #[.agg #[s, c], .int .i64 z, .int .i64 p, .int .u8 (y.toNat : Nat)] w (Answers w F S2 C2 n m) :=
  (tamper_any s c S C w hd hf z p y _ rfl).mono fun _ _ h => answers_of hF hS hC hn hm h
theorem read_this (s c : Value) (S : List (List UInt8)) (C : List (Int × List UInt8)) (z : Int) (F : Int) (L : List UInt8) (n : Nat) (hF : dFault S C z = F) (hL : readOf S C z = L) (hn : L.length = n) (w : World) (hd : IsDisk w s c S C) :
    Calls Try.prog 13 #[.agg #[s, c], .int .i64 z] w fun e w' => ∃ a c, e = .returned (.tuple #[.slice a n c, .int .i64 F]) ∧ IsArg w' (.slice a n c) L ∧ Below w.heap.size w w' :=
  (read_any s c S C w hd z F hF L hL).mono fun e w' ⟨a, m, c, h1, h2, h3, h4⟩ => by
    rw [hn] at h3
    subst h3
    exact ⟨a, c, h1, h2, h4⟩
theorem refRead_this (s c : Value) (S : List (List UInt8)) (C : List (Int × List UInt8)) (z : Int) (F : Int) (L : List UInt8) (n : Nat) (hF : dFault S C z = F) (hL : readOf S C z = L) (hn : L.length = n) (w : World) (hd : IsDisk w s c S C) :
    Calls Try.prog 14 #[.agg #[s, c], .int .i64 z] w fun e w' => ∃ a c, e = .returned (.tuple #[.slice a n c, .int .i64 F]) ∧ IsArg w' (.slice a n c) L ∧ Below w.heap.size w w' :=
  (refRead_any s c S C w hd z F hF L hL).mono fun e w' ⟨a, m, c, h1, h2, h3, h4⟩ => by
    rw [hn] at h3
    subst h3
    exact ⟨a, c, h1, h2, h4⟩
theorem bytes_is (a b : Value) (la lb : List UInt8) (w : World) (ha : IsBytes w a la) (hb : IsBytes w b lb) (r : Bool) (hr : decide (la = lb) = r) :
    Calls Try.prog 15 #[a, b] w fun e w' => e = .returned (.bool r) ∧ w = w' := by
  by_cases hne : la = lb
  · subst hne
    rw [decide_eq_true rfl] at hr
    subst hr
    exact bytes_same a b la w ha hb
  · rw [decide_eq_false hne] at hr
    subst hr
    have h1 := conv_bytes ha
    have h2 := conv_bytes hb
    have h3 : (la == lb) = false := by rw [beq_eq_false_iff_ne]; exact hne
    clear hne
    go_enter Try.func15, Try.ntmps15
    go_wp2
    go_ret
    exact ⟨rfl, rfl⟩
end Go.Proofs.Ytaamjpcpdlanhaa
