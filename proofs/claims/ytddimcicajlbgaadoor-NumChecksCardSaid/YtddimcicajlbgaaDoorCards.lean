/-
  DERIVED. GIVEN WITH THE SEED: THE CARDS: each row of YtddimcicajlbgaaDoorRows.lean that lists a variable, with what it lists TIED to the program's text (the seventh form; the later family's looks); each row that meets fmt, with fmt's text TOLD by the authors' own Lean function (tested against real Go, not proved from fmt's source: count such statements apart). THE CARD IS WHAT COUNTS. Prove the row's statement (the work); the ties are given (YtddimcicajlbgaaDoorTie.lean); close each card by the builder's one call (the guide's Derived/Test/ToyasCard.lean, 'card_holds'). Laid BY PROGRAM, IN A SANDBOX (cutbox-door.mjs). By AI agents, Wed Nov 11 2026. No macro, syntax, notation, axiom, sorry.
-/
import Derived.Test.YtddimcicajlbgaaDoorRows
import GoSem.ClaimSeven
namespace Go.Proofs.YtddimcicajlbgaaDoor
namespace Rows

/-- THE TIED CARD OF 'phonographlaw01.NumTurns'. -/
def numTurnsCard : Claim7 := { stood := { row := numTurnsRow, standIns := [], harness := (true, "eec67b3937c291db7c6302fc0eb8c9afd242b73ac6f30a0c6b9674d375a275f3"), looks := true }, kinds := [], alts := [], laidByText := true, laidKinds := [.data, .data, .data, .sentinel, .sentinel], laidTests := true, laidLooks := .later }
def NumTurnsCardSaid : Prop := Claim7.holds Tryd.pinned (.plain (OpenSpec.ofChange numTurnsSpec)) numTurnsCard

/-- THE TIED CARD OF 'phonographlaw01.NumBytes'. -/
def numBytesCard : Claim7 := { stood := { row := numBytesRow, standIns := [], harness := (true, "eec67b3937c291db7c6302fc0eb8c9afd242b73ac6f30a0c6b9674d375a275f3"), looks := true }, kinds := [], alts := [], laidByText := true, laidKinds := [.data, .data, .data, .sentinel, .sentinel], laidTests := true, laidLooks := .later }
def NumBytesCardSaid : Prop := Claim7.holds Tryd.pinned (.plain (OpenSpec.ofChange numBytesSpec)) numBytesCard

/-- THE TIED CARD OF 'phonographlaw01.NumChecks'. -/
def numChecksCard : Claim7 := { stood := { row := numChecksRow, standIns := [], harness := (true, "eec67b3937c291db7c6302fc0eb8c9afd242b73ac6f30a0c6b9674d375a275f3"), looks := true }, kinds := [], alts := [], laidByText := true, laidKinds := [.data, .data, .data, .sentinel, .sentinel], laidTests := true, laidLooks := .later }
def NumChecksCardSaid : Prop := Claim7.holds Tryd.pinned (.plain (OpenSpec.ofChange numChecksSpec)) numChecksCard

/-- THE TIED CARD OF 'phonographlaw01.NumBack'. -/
def numBackCard : Claim7 := { stood := { row := numBackRow, standIns := [], harness := (true, "eec67b3937c291db7c6302fc0eb8c9afd242b73ac6f30a0c6b9674d375a275f3"), looks := true }, kinds := [], alts := [], laidByText := true, laidKinds := [.data, .data, .data, .sentinel, .sentinel], laidTests := true, laidLooks := .later }
def NumBackCardSaid : Prop := Claim7.holds Tryd.pinned (.plain (OpenSpec.ofChange numBackSpec)) numBackCard

/-- THE TIED CARD OF 'phonographlaw01.NumSealed'. -/
def numSealedCard : Claim7 := { stood := { row := numSealedRow, standIns := [], harness := (true, "eec67b3937c291db7c6302fc0eb8c9afd242b73ac6f30a0c6b9674d375a275f3"), looks := true }, kinds := [], alts := [], laidByText := true, laidKinds := [.data, .data, .data, .sentinel, .sentinel], laidTests := true, laidLooks := .later }
def NumSealedCardSaid : Prop := Claim7.holds Tryd.pinned (.plain (OpenSpec.ofChange numSealedSpec)) numSealedCard

/-- THE SECOND FORM's CARD OF 'phonographlaw01.NumTurns'. -/
def numTurnsUptoCard : Claim7 := { stood := { row := numTurnsUptoRow, standIns := [], harness := (true, "eec67b3937c291db7c6302fc0eb8c9afd242b73ac6f30a0c6b9674d375a275f3"), looks := true }, kinds := [], alts := [], laidByText := true, laidKinds := [.data, .data, .data, .sentinel, .sentinel], laidTests := true, laidLooks := .later }
def NumTurnsUptoCardSaid : Prop := Claim7.holds Tryd.pinned (.plain (OpenSpec.upto numTurnsSpec)) numTurnsUptoCard

/-- THE SECOND FORM's CARD OF 'phonographlaw01.NumBytes'. -/
def numBytesUptoCard : Claim7 := { stood := { row := numBytesUptoRow, standIns := [], harness := (true, "eec67b3937c291db7c6302fc0eb8c9afd242b73ac6f30a0c6b9674d375a275f3"), looks := true }, kinds := [], alts := [], laidByText := true, laidKinds := [.data, .data, .data, .sentinel, .sentinel], laidTests := true, laidLooks := .later }
def NumBytesUptoCardSaid : Prop := Claim7.holds Tryd.pinned (.plain (OpenSpec.upto numBytesSpec)) numBytesUptoCard

/-- THE SECOND FORM's CARD OF 'phonographlaw01.NumChecks'. -/
def numChecksUptoCard : Claim7 := { stood := { row := numChecksUptoRow, standIns := [], harness := (true, "eec67b3937c291db7c6302fc0eb8c9afd242b73ac6f30a0c6b9674d375a275f3"), looks := true }, kinds := [], alts := [], laidByText := true, laidKinds := [.data, .data, .data, .sentinel, .sentinel], laidTests := true, laidLooks := .later }
def NumChecksUptoCardSaid : Prop := Claim7.holds Tryd.pinned (.plain (OpenSpec.upto numChecksSpec)) numChecksUptoCard

/-- THE SECOND FORM's CARD OF 'phonographlaw01.NumBack'. -/
def numBackUptoCard : Claim7 := { stood := { row := numBackUptoRow, standIns := [], harness := (true, "eec67b3937c291db7c6302fc0eb8c9afd242b73ac6f30a0c6b9674d375a275f3"), looks := true }, kinds := [], alts := [], laidByText := true, laidKinds := [.data, .data, .data, .sentinel, .sentinel], laidTests := true, laidLooks := .later }
def NumBackUptoCardSaid : Prop := Claim7.holds Tryd.pinned (.plain (OpenSpec.upto numBackSpec)) numBackUptoCard

/-- THE SECOND FORM's CARD OF 'phonographlaw01.NumSealed'. -/
def numSealedUptoCard : Claim7 := { stood := { row := numSealedUptoRow, standIns := [], harness := (true, "eec67b3937c291db7c6302fc0eb8c9afd242b73ac6f30a0c6b9674d375a275f3"), looks := true }, kinds := [], alts := [], laidByText := true, laidKinds := [.data, .data, .data, .sentinel, .sentinel], laidTests := true, laidLooks := .later }
def NumSealedUptoCardSaid : Prop := Claim7.holds Tryd.pinned (.plain (OpenSpec.upto numSealedSpec)) numSealedUptoCard
end Rows
end Go.Proofs.YtddimcicajlbgaaDoor
