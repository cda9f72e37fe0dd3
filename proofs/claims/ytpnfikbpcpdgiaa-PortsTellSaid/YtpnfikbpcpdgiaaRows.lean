/-
  No cell of these rows narrows 'for every input' (looked for: loops, veiled, ifaces, maps, wideKeys, modest, calm, conditions, laid).
  DERIVED. THE GIVEN ROWS OF THIS SEAT. 3 by the template 'for every input the law returns true; each argument reads behind the call as it read before'; 0 by the template 'total and deterministic' (their statements: YtpnfikbpcpdgiaaTotals.lean).
  GIVEN WITH THE SEED: the statements are not yours to turn. If you find one false, say at which input.
  Laid BY PROGRAM, IN A SANDBOX (cutbox-rows.mjs): the forced cells as the released guide's own fill.sh prints them over the translation 3d72dacddd26096f… (all of the seat's roots in one cut). By AI agents, Wed Nov 11 2026. No macro, syntax, notation, axiom, sorry.
-/
import Derived.Test.YtpnfikbpcpdgiaaChecked
import GoSem.Claim
import GoSem.ClaimJoined
import GoSem.ClaimMapViews
import Derived.JoinedTies
import Derived.KernelRfl
namespace Go.Proofs.Ytpnfikbpcpdgiaa
/- THE CELL 'sum', in the pinned program and in every row, IS THE sha256 OF THE DUMP (.gsa) THAT YtpnfikbpcpdgiaaProg.lean LOADS. Nothing in Lean hashes anything: it is a label: what it is worth is what the hold of that sum in a sandbox is worth. -/
noncomputable def Try.pinned : Pinned := { name := "ytpnfikbpcpdgiaa", sum := "3d72dacddd26096f2c28964be8f2dffdf1b14bd6dfde0e1e87ac85e1d4eebb1e", checked := Try.checked }
namespace Rows
def none {H : Type} : Left H := { results := [], args := [] }

/-- 'phonographlaw06.PortsLines': WHATEVER THE INPUT: true; the input reads as it did. -/
def portsLinesSpec : ChangeSpec := { name := "portsLines", fn := fun _ => fun
  | [d] => { results := [.lit (.bool true)], args := [d] }
  | _ => none }
def portsLinesRow : OpenClaim := { program := "ytpnfikbpcpdgiaa", sum := "3d72dacddd26096f2c28964be8f2dffdf1b14bd6dfde0e1e87ac85e1d4eebb1e", func := "phonograph/phonographlaw06.PortsLines", spec := "portsLines", unfollowed := true, recurses := true, apart := false }
def PortsLinesSaid : Prop := portsLinesRow.holds Try.pinned (OpenSpec.ofChange portsLinesSpec)

/-- ITS FALSE NEIGHBOUR: 'it returns false'. Refute it at one input. -/
def portsLinesWrong : ChangeSpec := { name := "portsLines", fn := fun _ => fun
  | [d] => { results := [.lit (.bool false)], args := [d] }
  | _ => none }
def PortsLinesWrongFalsely : Prop := portsLinesRow.holds Try.pinned (OpenSpec.ofChange portsLinesWrong)

/-- 'phonographlaw06.PortsTell': WHATEVER THE INPUT: true; the input reads as it did. -/
def portsTellSpec : ChangeSpec := { name := "portsTell", fn := fun _ => fun
  | [d1, d2, d3, d4, d5, d6] => { results := [.lit (.bool true)], args := [d1, d2, d3, d4, d5, d6] }
  | _ => none }
def portsTellRow : OpenClaim := { program := "ytpnfikbpcpdgiaa", sum := "3d72dacddd26096f2c28964be8f2dffdf1b14bd6dfde0e1e87ac85e1d4eebb1e", func := "phonograph/phonographlaw06.PortsTell", spec := "portsTell", unfollowed := true, recurses := true, apart := false }
def PortsTellSaid : Prop := portsTellRow.holds Try.pinned (OpenSpec.ofChange portsTellSpec)

/-- ITS FALSE NEIGHBOUR: 'it returns false'. Refute it at one input. -/
def portsTellWrong : ChangeSpec := { name := "portsTell", fn := fun _ => fun
  | [d1, d2, d3, d4, d5, d6] => { results := [.lit (.bool false)], args := [d1, d2, d3, d4, d5, d6] }
  | _ => none }
def PortsTellWrongFalsely : Prop := portsTellRow.holds Try.pinned (OpenSpec.ofChange portsTellWrong)

/-- 'phonographlaw06.PortsOrder': WHATEVER THE INPUT: true; the input reads as it did. -/
def portsOrderSpec : ChangeSpec := { name := "portsOrder", fn := fun _ => fun
  | [d1, d2, d3] => { results := [.lit (.bool true)], args := [d1, d2, d3] }
  | _ => none }
def portsOrderRow : OpenClaim := { program := "ytpnfikbpcpdgiaa", sum := "3d72dacddd26096f2c28964be8f2dffdf1b14bd6dfde0e1e87ac85e1d4eebb1e", func := "phonograph/phonographlaw06.PortsOrder", spec := "portsOrder", unfollowed := true, recurses := true, apart := false }
def PortsOrderSaid : Prop := portsOrderRow.holds Try.pinned (OpenSpec.ofChange portsOrderSpec)

/-- ITS FALSE NEIGHBOUR: 'it returns false'. Refute it at one input. -/
def portsOrderWrong : ChangeSpec := { name := "portsOrder", fn := fun _ => fun
  | [d1, d2, d3] => { results := [.lit (.bool false)], args := [d1, d2, d3] }
  | _ => none }
def PortsOrderWrongFalsely : Prop := portsOrderRow.holds Try.pinned (OpenSpec.ofChange portsOrderWrong)

/- THE SECOND FORM. 'bulk': how many values and letters a reading holds, each counted each time it is reached (what is shared counts as often as it is met; a slice's spare places count too). A statement '..UptoSaid' is the law's where the arguments, and the package variables that the reading takes, are together of bulk at most 1048576: NARROWER than '..Said'. Prove '..Said' where nothing that the law and all that it calls make is longer than what came in: it says more and counts as full. Else prove '..UptoSaid'. A law counts once. -/
mutual
def uptoBulk {H : Type} : DataW H → Nat
  | .lit (.string bytes) => bytes.length + 1
  | .lit _ => 1
  | .nil => 1
  | .ptr d => uptoBulk d + 1
  | .slice elems spare => uptoBulkAll elems + uptoBulkAll spare + 1
  | .agg parts => uptoBulkAll parts + 1
  | .iface _ d => uptoBulk d + 1
  | .map entries => uptoBulkEntries entries + 1
  | .held _ => 1
def uptoBulkAll {H : Type} : List (DataW H) → Nat
  | [] => 0
  | d :: r => uptoBulk d + uptoBulkAll r
def uptoBulkEntries {H : Type} : List (Lit × DataW H) → Nat
  | [] => 0
  | x :: r => uptoBulkEntry x + uptoBulkEntries r
def uptoBulkEntry {H : Type} : Lit × DataW H → Nat
  | (.string bytes, d) => bytes.length + uptoBulk d + 1
  | (_, d) => uptoBulk d + 1
 end
def uptoSmall : (H : Type) → List (DataW H) → Bool := fun _ ds => decide (uptoBulkAll ds ≤ 1048576)
def OpenSpec.upto (s : _root_.Go.ChangeSpec) : _root_.Go.OpenSpec := { _root_.Go.OpenSpec.ofChange s with cond := some uptoSmall }

/-- 'phonographlaw06.PortsLines', WHERE WHAT IT READS IS OF BULK AT MOST 1048576: true; the input reads as it did. -/
def portsLinesUptoRow : OpenClaim := { program := "ytpnfikbpcpdgiaa", sum := "3d72dacddd26096f2c28964be8f2dffdf1b14bd6dfde0e1e87ac85e1d4eebb1e", func := "phonograph/phonographlaw06.PortsLines", spec := "portsLines", unfollowed := true, recurses := true, apart := false, narrowed := true }
def PortsLinesUptoSaid : Prop := portsLinesUptoRow.holds Try.pinned (OpenSpec.upto portsLinesSpec)

/-- 'phonographlaw06.PortsTell', WHERE WHAT IT READS IS OF BULK AT MOST 1048576: true; the input reads as it did. -/
def portsTellUptoRow : OpenClaim := { program := "ytpnfikbpcpdgiaa", sum := "3d72dacddd26096f2c28964be8f2dffdf1b14bd6dfde0e1e87ac85e1d4eebb1e", func := "phonograph/phonographlaw06.PortsTell", spec := "portsTell", unfollowed := true, recurses := true, apart := false, narrowed := true }
def PortsTellUptoSaid : Prop := portsTellUptoRow.holds Try.pinned (OpenSpec.upto portsTellSpec)

/-- 'phonographlaw06.PortsOrder', WHERE WHAT IT READS IS OF BULK AT MOST 1048576: true; the input reads as it did. -/
def portsOrderUptoRow : OpenClaim := { program := "ytpnfikbpcpdgiaa", sum := "3d72dacddd26096f2c28964be8f2dffdf1b14bd6dfde0e1e87ac85e1d4eebb1e", func := "phonograph/phonographlaw06.PortsOrder", spec := "portsOrder", unfollowed := true, recurses := true, apart := false, narrowed := true }
def PortsOrderUptoSaid : Prop := portsOrderUptoRow.holds Try.pinned (OpenSpec.upto portsOrderSpec)

end Rows
end Go.Proofs.Ytpnfikbpcpdgiaa
