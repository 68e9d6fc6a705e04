/-
  DERIVED. GIVEN WITH THE SEED: THE CARDS: each row of YtkfnpijljpbiaaaDoorRows.lean that lists a variable, with what it lists TIED to the program's text (the seventh form; the later family's looks); each row that meets fmt, with fmt's text TOLD by the authors' own Lean function (tested against real Go, not proved from fmt's source: count such statements apart). THE CARD IS WHAT COUNTS. Prove the row's statement (the work); the ties are given (YtkfnpijljpbiaaaDoorTie.lean); close each card by the builder's one call (the guide's Derived/Test/ToyasCard.lean, 'card_holds'). Laid BY PROGRAM, IN A SANDBOX (cutbox-door.mjs). By AI agents, Wed Nov 11 2026. No macro, syntax, notation, axiom, sorry.
-/
import Derived.Test.YtkfnpijljpbiaaaDoorRows
import GoSem.ClaimSeven
namespace Go.Proofs.YtkfnpijljpbiaaaDoor
namespace Rows

/-- THE TIED CARD OF 'laws.FnAcked'. -/
def fnAckedCard : Claim7 := { stood := { row := fnAckedRow, standIns := [], harness := (true, "321c7c7b6567801377e1c5f5a81712305a62eeef62ee5176db2f66f0b0dd7ce0"), looks := true }, kinds := [], alts := [], laidByText := true, laidKinds := [.sentinel], laidTests := true, laidLooks := .later }
def FnAckedCardSaid : Prop := Claim7.holds Tryd.pinned (.plain (OpenSpec.ofChange fnAckedSpec)) fnAckedCard

/-- THE TIED CARD OF 'laws.FnSpoilt'. -/
def fnSpoiltCard : Claim7 := { stood := { row := fnSpoiltRow, standIns := [], harness := (true, "321c7c7b6567801377e1c5f5a81712305a62eeef62ee5176db2f66f0b0dd7ce0"), looks := true }, kinds := [], alts := [], laidByText := true, laidKinds := [.sentinel], laidTests := true, laidLooks := .later }
def FnSpoiltCardSaid : Prop := Claim7.holds Tryd.pinned (.plain (OpenSpec.ofChange fnSpoiltSpec)) fnSpoiltCard

/-- THE SECOND FORM's CARD OF 'laws.FnAcked'. -/
def fnAckedUptoCard : Claim7 := { stood := { row := fnAckedUptoRow, standIns := [], harness := (true, "321c7c7b6567801377e1c5f5a81712305a62eeef62ee5176db2f66f0b0dd7ce0"), looks := true }, kinds := [], alts := [], laidByText := true, laidKinds := [.sentinel], laidTests := true, laidLooks := .later }
def FnAckedUptoCardSaid : Prop := Claim7.holds Tryd.pinned (.plain (OpenSpec.upto fnAckedSpec)) fnAckedUptoCard

/-- THE SECOND FORM's CARD OF 'laws.FnSpoilt'. -/
def fnSpoiltUptoCard : Claim7 := { stood := { row := fnSpoiltUptoRow, standIns := [], harness := (true, "321c7c7b6567801377e1c5f5a81712305a62eeef62ee5176db2f66f0b0dd7ce0"), looks := true }, kinds := [], alts := [], laidByText := true, laidKinds := [.sentinel], laidTests := true, laidLooks := .later }
def FnSpoiltUptoCardSaid : Prop := Claim7.holds Tryd.pinned (.plain (OpenSpec.upto fnSpoiltSpec)) fnSpoiltUptoCard
end Rows
end Go.Proofs.YtkfnpijljpbiaaaDoor
