/-
  No cell of these rows narrows 'for every input' (looked for: loops, veiled, ifaces, maps, wideKeys, modest, calm, conditions, laid).
  DERIVED. THE GIVEN ROWS OF THIS SEAT. 3 by the template 'for every input the law returns true; each argument reads behind the call as it read before'; 0 by the template 'total and deterministic' (their statements: YtnmekbbnglkmcaaGreatTotals.lean).
  GIVEN WITH THE SEED: the statements are not yours to turn. If you find one false, say at which input.
  Laid BY PROGRAM, IN A SANDBOX (cutbox-rows.mjs): the forced cells as the released guide's own fill.sh prints them over the translation 0cb89e874116559c… (all of the seat's roots in one cut). By AI agents, Wed Nov 11 2026. No macro, syntax, notation, axiom, sorry.
-/
import Derived.Test.YtnmekbbnglkmcaaGreatChecked
import GoSem.Claim
import GoSem.ClaimJoined
import GoSem.ClaimMapViews
import Derived.JoinedTies
import Derived.KernelRfl
namespace Go.Proofs.YtnmekbbnglkmcaaGreat
/- THE CELL 'sum', in the pinned program and in every row, IS THE sha256 OF THE DUMP (.gsa) THAT YtnmekbbnglkmcaaGreatProg.lean LOADS. Nothing in Lean hashes anything: it is a label: what it is worth is what the hold of that sum in a sandbox is worth. -/
noncomputable def Tryz.pinned : Pinned := { name := "ytnmekbbnglkmcaagreat", sum := "0cb89e874116559ca5ef8b5e3c955a4db69fbe4e5ac96a45b14c67441e9af660", checked := Tryz.checked }
namespace Rows
def none {H : Type} : Left H := { results := [], args := [] }

/-- 'phonographlaw08.QueueCarries': WHATEVER THE INPUT: true; the input reads as it did. -/
def queueCarriesSpec : ChangeSpec := { name := "queueCarries", fn := fun _ => fun
  | [d1, d2] => { results := [.lit (.bool true)], args := [d1, d2] }
  | _ => none }
def queueCarriesRow : OpenClaim := { program := "ytnmekbbnglkmcaagreat", sum := "0cb89e874116559ca5ef8b5e3c955a4db69fbe4e5ac96a45b14c67441e9af660", func := "phonograph/phonographlaw08.QueueCarries", spec := "queueCarries", unfollowed := true, recurses := true, apart := false }
def QueueCarriesSaid : Prop := queueCarriesRow.holds Tryz.pinned (OpenSpec.ofChange queueCarriesSpec)

/-- ITS FALSE NEIGHBOUR: 'it returns false'. Refute it at one input. -/
def queueCarriesWrong : ChangeSpec := { name := "queueCarries", fn := fun _ => fun
  | [d1, d2] => { results := [.lit (.bool false)], args := [d1, d2] }
  | _ => none }
def QueueCarriesWrongFalsely : Prop := queueCarriesRow.holds Tryz.pinned (OpenSpec.ofChange queueCarriesWrong)

/-- 'phonographlaw08.QueueHostile': WHATEVER THE INPUT: true; the input reads as it did. -/
def queueHostileSpec : ChangeSpec := { name := "queueHostile", fn := fun _ => fun
  | [d1, d2, d3] => { results := [.lit (.bool true)], args := [d1, d2, d3] }
  | _ => none }
def queueHostileRow : OpenClaim := { program := "ytnmekbbnglkmcaagreat", sum := "0cb89e874116559ca5ef8b5e3c955a4db69fbe4e5ac96a45b14c67441e9af660", func := "phonograph/phonographlaw08.QueueHostile", spec := "queueHostile", unfollowed := true, recurses := true, apart := false }
def QueueHostileSaid : Prop := queueHostileRow.holds Tryz.pinned (OpenSpec.ofChange queueHostileSpec)

/-- ITS FALSE NEIGHBOUR: 'it returns false'. Refute it at one input. -/
def queueHostileWrong : ChangeSpec := { name := "queueHostile", fn := fun _ => fun
  | [d1, d2, d3] => { results := [.lit (.bool false)], args := [d1, d2, d3] }
  | _ => none }
def QueueHostileWrongFalsely : Prop := queueHostileRow.holds Tryz.pinned (OpenSpec.ofChange queueHostileWrong)

/-- 'phonographlaw08.QueueTurns': WHATEVER THE INPUT: true; the input reads as it did. -/
def queueTurnsSpec : ChangeSpec := { name := "queueTurns", fn := fun _ => fun
  | [d1, d2, d3] => { results := [.lit (.bool true)], args := [d1, d2, d3] }
  | _ => none }
def queueTurnsRow : OpenClaim := { program := "ytnmekbbnglkmcaagreat", sum := "0cb89e874116559ca5ef8b5e3c955a4db69fbe4e5ac96a45b14c67441e9af660", func := "phonograph/phonographlaw08.QueueTurns", spec := "queueTurns", unfollowed := true, recurses := true, apart := false }
def QueueTurnsSaid : Prop := queueTurnsRow.holds Tryz.pinned (OpenSpec.ofChange queueTurnsSpec)

/-- ITS FALSE NEIGHBOUR: 'it returns false'. Refute it at one input. -/
def queueTurnsWrong : ChangeSpec := { name := "queueTurns", fn := fun _ => fun
  | [d1, d2, d3] => { results := [.lit (.bool false)], args := [d1, d2, d3] }
  | _ => none }
def QueueTurnsWrongFalsely : Prop := queueTurnsRow.holds Tryz.pinned (OpenSpec.ofChange queueTurnsWrong)

/- THE SECOND FORM. 'bulk': how many values and letters a reading holds, each counted each time it is reached (what is shared counts as often as it is met; a slice's spare places count too). A statement '..UptoSaid' is the law's where the arguments, and the package variables that the reading takes, are together of bulk at most 1048576: NARROWER than '..Said'. Prove '..Said' where nothing that the law and all that it calls make is longer than what came in: it says more and counts as full. Else prove '..UptoSaid'. A law counts once. -/
mutual
def uptoBulk {H : Type} : DataW H → Nat
  | .lit (.string bytes) => bytes.length + 1
  | .lit _ => 1
  | .nil => 1
  | .ptr d => uptoBulk d + 1
  | .slice elems spare => uptoBulkAll elems + uptoBulkAll spare + 1
  | .agg parts => uptoBulkAll parts + 1
  | .iface _ d => uptoBulk d + 1
  | .map entries => uptoBulkEntries entries + 1
  | .held _ => 1
def uptoBulkAll {H : Type} : List (DataW H) → Nat
  | [] => 0
  | d :: r => uptoBulk d + uptoBulkAll r
def uptoBulkEntries {H : Type} : List (Lit × DataW H) → Nat
  | [] => 0
  | x :: r => uptoBulkEntry x + uptoBulkEntries r
def uptoBulkEntry {H : Type} : Lit × DataW H → Nat
  | (.string bytes, d) => bytes.length + uptoBulk d + 1
  | (_, d) => uptoBulk d + 1
 end
def uptoSmall : (H : Type) → List (DataW H) → Bool := fun _ ds => decide (uptoBulkAll ds ≤ 1048576)
def OpenSpec.upto (s : _root_.Go.ChangeSpec) : _root_.Go.OpenSpec := { _root_.Go.OpenSpec.ofChange s with cond := some uptoSmall }

/-- 'phonographlaw08.QueueCarries', WHERE WHAT IT READS IS OF BULK AT MOST 1048576: true; the input reads as it did. -/
def queueCarriesUptoRow : OpenClaim := { program := "ytnmekbbnglkmcaagreat", sum := "0cb89e874116559ca5ef8b5e3c955a4db69fbe4e5ac96a45b14c67441e9af660", func := "phonograph/phonographlaw08.QueueCarries", spec := "queueCarries", unfollowed := true, recurses := true, apart := false, narrowed := true }
def QueueCarriesUptoSaid : Prop := queueCarriesUptoRow.holds Tryz.pinned (OpenSpec.upto queueCarriesSpec)

/-- 'phonographlaw08.QueueHostile', WHERE WHAT IT READS IS OF BULK AT MOST 1048576: true; the input reads as it did. -/
def queueHostileUptoRow : OpenClaim := { program := "ytnmekbbnglkmcaagreat", sum := "0cb89e874116559ca5ef8b5e3c955a4db69fbe4e5ac96a45b14c67441e9af660", func := "phonograph/phonographlaw08.QueueHostile", spec := "queueHostile", unfollowed := true, recurses := true, apart := false, narrowed := true }
def QueueHostileUptoSaid : Prop := queueHostileUptoRow.holds Tryz.pinned (OpenSpec.upto queueHostileSpec)

/-- 'phonographlaw08.QueueTurns', WHERE WHAT IT READS IS OF BULK AT MOST 1048576: true; the input reads as it did. -/
def queueTurnsUptoRow : OpenClaim := { program := "ytnmekbbnglkmcaagreat", sum := "0cb89e874116559ca5ef8b5e3c955a4db69fbe4e5ac96a45b14c67441e9af660", func := "phonograph/phonographlaw08.QueueTurns", spec := "queueTurns", unfollowed := true, recurses := true, apart := false, narrowed := true }
def QueueTurnsUptoSaid : Prop := queueTurnsUptoRow.holds Tryz.pinned (OpenSpec.upto queueTurnsSpec)

end Rows
end Go.Proofs.YtnmekbbnglkmcaaGreat
