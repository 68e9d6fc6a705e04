/-
  DERIVED. GIVEN WITH THE SEED: THE CARDS: each row of YtoaenoakdbieaaaDoorRows.lean that lists a variable, with what it lists TIED to the program's text (the seventh form; the later family's looks); each row that meets fmt, with fmt's text TOLD by the authors' own Lean function (tested against real Go, not proved from fmt's source: count such statements apart). THE CARD IS WHAT COUNTS. Prove the row's statement (the work); the ties are given (YtoaenoakdbieaaaDoorTie.lean); close each card by the builder's one call (the guide's Derived/Test/ToyasCard.lean, 'card_holds'). Laid BY PROGRAM, IN A SANDBOX (cutbox-door.mjs). By AI agents, Wed Nov 11 2026. No macro, syntax, notation, axiom, sorry.
-/
import Derived.Test.YtoaenoakdbieaaaDoorRows
import GoSem.ClaimSeven
namespace Go.Proofs.YtoaenoakdbieaaaDoor
namespace Rows

/-- THE TIED CARD OF 'laws.FnMsgs'. -/
def fnMsgsCard : Claim7 := { stood := { row := fnMsgsRow, standIns := [], harness := (true, "6a319129f2ed939f90db7bd08f8949e319d191271a634eca72f14f2c269303d8"), looks := true }, kinds := [], alts := [], laidByText := true, laidKinds := [.sentinel], laidTests := true, laidLooks := .later }
def FnMsgsCardSaid : Prop := Claim7.holds Tryd.pinned (.plain (OpenSpec.ofChange fnMsgsSpec)) fnMsgsCard

/-- THE TIED CARD OF 'laws.FnInOrder'. -/
def fnInOrderCard : Claim7 := { stood := { row := fnInOrderRow, standIns := [], harness := (true, "6a319129f2ed939f90db7bd08f8949e319d191271a634eca72f14f2c269303d8"), looks := true }, kinds := [], alts := [], laidByText := true, laidKinds := [.sentinel], laidTests := true, laidLooks := .later }
def FnInOrderCardSaid : Prop := Claim7.holds Tryd.pinned (.plain (OpenSpec.ofChange fnInOrderSpec)) fnInOrderCard

/-- THE TIED CARD OF 'laws.FnAcked'. -/
def fnAckedCard : Claim7 := { stood := { row := fnAckedRow, standIns := [], harness := (true, "6a319129f2ed939f90db7bd08f8949e319d191271a634eca72f14f2c269303d8"), looks := true }, kinds := [], alts := [], laidByText := true, laidKinds := [.sentinel], laidTests := true, laidLooks := .later }
def FnAckedCardSaid : Prop := Claim7.holds Tryd.pinned (.plain (OpenSpec.ofChange fnAckedSpec)) fnAckedCard

/-- THE TIED CARD OF 'laws.FnSpoilt'. -/
def fnSpoiltCard : Claim7 := { stood := { row := fnSpoiltRow, standIns := [], harness := (true, "6a319129f2ed939f90db7bd08f8949e319d191271a634eca72f14f2c269303d8"), looks := true }, kinds := [], alts := [], laidByText := true, laidKinds := [.sentinel], laidTests := true, laidLooks := .later }
def FnSpoiltCardSaid : Prop := Claim7.holds Tryd.pinned (.plain (OpenSpec.ofChange fnSpoiltSpec)) fnSpoiltCard

/-- THE TIED CARD OF 'laws.FnExactMsgOf'. -/
def fnExactMsgOfCard : Claim7 := { stood := { row := fnExactMsgOfRow, standIns := [], harness := (true, "6a319129f2ed939f90db7bd08f8949e319d191271a634eca72f14f2c269303d8"), looks := true }, kinds := [], alts := [], laidByText := true, laidKinds := [.sentinel], laidTests := true, laidLooks := .later }
def FnExactMsgOfCardSaid : Prop := Claim7.holds Tryd.pinned (.plain (OpenSpec.ofChange fnExactMsgOfSpec)) fnExactMsgOfCard

/-- THE SECOND FORM's CARD OF 'laws.FnMsgs'. -/
def fnMsgsUptoCard : Claim7 := { stood := { row := fnMsgsUptoRow, standIns := [], harness := (true, "6a319129f2ed939f90db7bd08f8949e319d191271a634eca72f14f2c269303d8"), looks := true }, kinds := [], alts := [], laidByText := true, laidKinds := [.sentinel], laidTests := true, laidLooks := .later }
def FnMsgsUptoCardSaid : Prop := Claim7.holds Tryd.pinned (.plain (OpenSpec.upto fnMsgsSpec)) fnMsgsUptoCard

/-- THE SECOND FORM's CARD OF 'laws.FnInOrder'. -/
def fnInOrderUptoCard : Claim7 := { stood := { row := fnInOrderUptoRow, standIns := [], harness := (true, "6a319129f2ed939f90db7bd08f8949e319d191271a634eca72f14f2c269303d8"), looks := true }, kinds := [], alts := [], laidByText := true, laidKinds := [.sentinel], laidTests := true, laidLooks := .later }
def FnInOrderUptoCardSaid : Prop := Claim7.holds Tryd.pinned (.plain (OpenSpec.upto fnInOrderSpec)) fnInOrderUptoCard

/-- THE SECOND FORM's CARD OF 'laws.FnAcked'. -/
def fnAckedUptoCard : Claim7 := { stood := { row := fnAckedUptoRow, standIns := [], harness := (true, "6a319129f2ed939f90db7bd08f8949e319d191271a634eca72f14f2c269303d8"), looks := true }, kinds := [], alts := [], laidByText := true, laidKinds := [.sentinel], laidTests := true, laidLooks := .later }
def FnAckedUptoCardSaid : Prop := Claim7.holds Tryd.pinned (.plain (OpenSpec.upto fnAckedSpec)) fnAckedUptoCard

/-- THE SECOND FORM's CARD OF 'laws.FnSpoilt'. -/
def fnSpoiltUptoCard : Claim7 := { stood := { row := fnSpoiltUptoRow, standIns := [], harness := (true, "6a319129f2ed939f90db7bd08f8949e319d191271a634eca72f14f2c269303d8"), looks := true }, kinds := [], alts := [], laidByText := true, laidKinds := [.sentinel], laidTests := true, laidLooks := .later }
def FnSpoiltUptoCardSaid : Prop := Claim7.holds Tryd.pinned (.plain (OpenSpec.upto fnSpoiltSpec)) fnSpoiltUptoCard

/-- THE SECOND FORM's CARD OF 'laws.FnExactMsgOf'. -/
def fnExactMsgOfUptoCard : Claim7 := { stood := { row := fnExactMsgOfUptoRow, standIns := [], harness := (true, "6a319129f2ed939f90db7bd08f8949e319d191271a634eca72f14f2c269303d8"), looks := true }, kinds := [], alts := [], laidByText := true, laidKinds := [.sentinel], laidTests := true, laidLooks := .later }
def FnExactMsgOfUptoCardSaid : Prop := Claim7.holds Tryd.pinned (.plain (OpenSpec.upto fnExactMsgOfSpec)) fnExactMsgOfUptoCard
end Rows
end Go.Proofs.YtoaenoakdbieaaaDoor
