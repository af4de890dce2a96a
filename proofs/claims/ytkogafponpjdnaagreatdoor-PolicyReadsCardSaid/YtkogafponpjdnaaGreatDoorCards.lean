/-
  DERIVED. GIVEN WITH THE SEED: THE CARDS: each row of YtkogafponpjdnaaGreatDoorRows.lean that lists a variable, with what it lists TIED to the program's text (the seventh form; the later family's looks); each row that meets fmt, with fmt's text TOLD by the authors' own Lean function (tested against real Go, not proved from fmt's source: count such statements apart). THE CARD IS WHAT COUNTS. Prove the row's statement (the work); the ties are given (YtkogafponpjdnaaGreatDoorTie.lean); close each card by the builder's one call (the guide's Derived/Test/ToyasCard.lean, 'card_holds'). Laid BY PROGRAM, IN A SANDBOX (cutbox-door.mjs). By AI agents, Wed Nov 11 2026. No macro, syntax, notation, axiom, sorry.
-/
import Derived.Test.YtkogafponpjdnaaGreatDoorRows
import GoSem.ClaimSeven
namespace Go.Proofs.YtkogafponpjdnaaGreatDoor
namespace Rows

/-- THE TIED CARD OF 'doorwardlaw.PolicySays'. -/
def policySaysCard : Claim7 := { stood := { row := policySaysRow, standIns := [], harness := (true, "dc2a8daa57481233c5d42c833ebc11f69d97f106f6825d0327c75140d42c137b"), looks := true }, kinds := [], alts := [], laidByText := true, laidKinds := [.data, .data, .data, .data, .sentinel, .sentinel, .data, .pinned], laidTests := true, laidLooks := .later }
def PolicySaysCardSaid : Prop := Claim7.holds Tryz.pinned (.plain (OpenSpec.ofChange policySaysSpec)) policySaysCard

/-- THE TIED CARD OF 'doorwardlaw.PolicyReads'. -/
def policyReadsCard : Claim7 := { stood := { row := policyReadsRow, standIns := [], harness := (true, "dc2a8daa57481233c5d42c833ebc11f69d97f106f6825d0327c75140d42c137b"), looks := true }, kinds := [], alts := [], laidByText := true, laidKinds := [.data, .data, .data, .data, .sentinel, .sentinel, .data, .pinned], laidTests := true, laidLooks := .later }
def PolicyReadsCardSaid : Prop := Claim7.holds Tryz.pinned (.plain (OpenSpec.ofChange policyReadsSpec)) policyReadsCard

/-- THE SECOND FORM's CARD OF 'doorwardlaw.PolicySays'. -/
def policySaysUptoCard : Claim7 := { stood := { row := policySaysUptoRow, standIns := [], harness := (true, "dc2a8daa57481233c5d42c833ebc11f69d97f106f6825d0327c75140d42c137b"), looks := true }, kinds := [], alts := [], laidByText := true, laidKinds := [.data, .data, .data, .data, .sentinel, .sentinel, .data, .pinned], laidTests := true, laidLooks := .later }
def PolicySaysUptoCardSaid : Prop := Claim7.holds Tryz.pinned (.plain (OpenSpec.upto policySaysSpec)) policySaysUptoCard

/-- THE SECOND FORM's CARD OF 'doorwardlaw.PolicyReads'. -/
def policyReadsUptoCard : Claim7 := { stood := { row := policyReadsUptoRow, standIns := [], harness := (true, "dc2a8daa57481233c5d42c833ebc11f69d97f106f6825d0327c75140d42c137b"), looks := true }, kinds := [], alts := [], laidByText := true, laidKinds := [.data, .data, .data, .data, .sentinel, .sentinel, .data, .pinned], laidTests := true, laidLooks := .later }
def PolicyReadsUptoCardSaid : Prop := Claim7.holds Tryz.pinned (.plain (OpenSpec.upto policyReadsSpec)) policyReadsUptoCard
end Rows
end Go.Proofs.YtkogafponpjdnaaGreatDoor
