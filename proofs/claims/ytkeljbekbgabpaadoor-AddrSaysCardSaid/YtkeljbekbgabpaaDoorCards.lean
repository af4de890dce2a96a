/-
  DERIVED. GIVEN WITH THE SEED: THE CARDS: each row of YtkeljbekbgabpaaDoorRows.lean that lists a variable, with what it lists TIED to the program's text (the seventh form; the later family's looks); each row that meets fmt, with fmt's text TOLD by the authors' own Lean function (tested against real Go, not proved from fmt's source: count such statements apart). THE CARD IS WHAT COUNTS. Prove the row's statement (the work); the ties are given (YtkeljbekbgabpaaDoorTie.lean); close each card by the builder's one call (the guide's Derived/Test/ToyasCard.lean, 'card_holds'). Laid BY PROGRAM, IN A SANDBOX (cutbox-door.mjs). By AI agents, Wed Nov 11 2026. No macro, syntax, notation, axiom, sorry.
-/
import Derived.Test.YtkeljbekbgabpaaDoorRows
import GoSem.ClaimSeven
namespace Go.Proofs.YtkeljbekbgabpaaDoor
namespace Rows

/-- THE TIED CARD OF 'doorwardlaw.Names'. -/
def namesCard : Claim7 := { stood := { row := namesRow, standIns := [], harness := (true, "a279c570748a543c36d0084d5cb598f31e237b9508ed6a3e7285005bc8093b8a"), looks := true }, kinds := [], alts := [], laidByText := true, laidKinds := [.data, .data, .data], laidTests := true, laidLooks := .later }
def NamesCardSaid : Prop := Claim7.holds Tryd.pinned (.plain (OpenSpec.ofChange namesSpec)) namesCard

/-- THE TIED CARD OF 'doorwardlaw.AddrSays'. -/
def addrSaysCard : Claim7 := { stood := { row := addrSaysRow, standIns := [], harness := (true, "a279c570748a543c36d0084d5cb598f31e237b9508ed6a3e7285005bc8093b8a"), looks := true }, kinds := [], alts := [], laidByText := true, laidKinds := [.data, .data, .data], laidTests := true, laidLooks := .later }
def AddrSaysCardSaid : Prop := Claim7.holds Tryd.pinned (.plain (OpenSpec.ofChange addrSaysSpec)) addrSaysCard

/-- THE TIED CARD OF 'doorwardtop.TopAddr'. -/
def topAddrCard : Claim7 := { stood := { row := topAddrRow, standIns := [], harness := (true, "a279c570748a543c36d0084d5cb598f31e237b9508ed6a3e7285005bc8093b8a"), looks := true }, kinds := [], alts := [], laidByText := true, laidKinds := [.data, .data, .data], laidTests := true, laidLooks := .later }
def TopAddrCardSaid : Prop := Claim7.holds Tryd.pinned (.plain (OpenSpec.ofChange topAddrSpec)) topAddrCard

/-- THE SECOND FORM's CARD OF 'doorwardlaw.Names'. -/
def namesUptoCard : Claim7 := { stood := { row := namesUptoRow, standIns := [], harness := (true, "a279c570748a543c36d0084d5cb598f31e237b9508ed6a3e7285005bc8093b8a"), looks := true }, kinds := [], alts := [], laidByText := true, laidKinds := [.data, .data, .data], laidTests := true, laidLooks := .later }
def NamesUptoCardSaid : Prop := Claim7.holds Tryd.pinned (.plain (OpenSpec.upto namesSpec)) namesUptoCard

/-- THE SECOND FORM's CARD OF 'doorwardlaw.AddrSays'. -/
def addrSaysUptoCard : Claim7 := { stood := { row := addrSaysUptoRow, standIns := [], harness := (true, "a279c570748a543c36d0084d5cb598f31e237b9508ed6a3e7285005bc8093b8a"), looks := true }, kinds := [], alts := [], laidByText := true, laidKinds := [.data, .data, .data], laidTests := true, laidLooks := .later }
def AddrSaysUptoCardSaid : Prop := Claim7.holds Tryd.pinned (.plain (OpenSpec.upto addrSaysSpec)) addrSaysUptoCard

/-- THE SECOND FORM's CARD OF 'doorwardtop.TopAddr'. -/
def topAddrUptoCard : Claim7 := { stood := { row := topAddrUptoRow, standIns := [], harness := (true, "a279c570748a543c36d0084d5cb598f31e237b9508ed6a3e7285005bc8093b8a"), looks := true }, kinds := [], alts := [], laidByText := true, laidKinds := [.data, .data, .data], laidTests := true, laidLooks := .later }
def TopAddrUptoCardSaid : Prop := Claim7.holds Tryd.pinned (.plain (OpenSpec.upto topAddrSpec)) topAddrUptoCard
end Rows
end Go.Proofs.YtkeljbekbgabpaaDoor
