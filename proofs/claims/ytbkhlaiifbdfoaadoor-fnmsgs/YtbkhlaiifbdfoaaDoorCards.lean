/-
  DERIVED. GIVEN WITH THE SEED: THE CARDS: each row of YtbkhlaiifbdfoaaDoorRows.lean that lists a variable, with what it lists TIED to the program's text (the seventh form; the later family's looks); each row that meets fmt, with fmt's text TOLD by the authors' own Lean function (tested against real Go, not proved from fmt's source: count such statements apart). THE CARD IS WHAT COUNTS. Prove the row's statement (the work); the ties are given (YtbkhlaiifbdfoaaDoorTie.lean); close each card by the builder's one call (the guide's Derived/Test/ToyasCard.lean, 'card_holds'). Laid BY PROGRAM, IN A SANDBOX (cutbox-door.mjs). By AI agents, Wed Nov 11 2026. No macro, syntax, notation, axiom, sorry.
-/
import Derived.Test.YtbkhlaiifbdfoaaDoorRows
import GoSem.ClaimSeven
namespace Go.Proofs.YtbkhlaiifbdfoaaDoor
namespace Rows

/-- THE TIED CARD OF 'laws.FnMsgs'. -/
def fnMsgsCard : Claim7 := { stood := { row := fnMsgsRow, standIns := [], harness := (true, "538a485812a6a3d5aceef88aed5fc0ea47d7b6dd046c151cfa56884d8a43551f"), looks := true }, kinds := [], alts := [], laidByText := true, laidKinds := [.sentinel], laidTests := true, laidLooks := .later }
def FnMsgsCardSaid : Prop := Claim7.holds Tryd.pinned (.plain (OpenSpec.ofChange fnMsgsSpec)) fnMsgsCard

/-- THE TIED CARD OF 'laws.FnExactMsgOf'. -/
def fnExactMsgOfCard : Claim7 := { stood := { row := fnExactMsgOfRow, standIns := [], harness := (true, "538a485812a6a3d5aceef88aed5fc0ea47d7b6dd046c151cfa56884d8a43551f"), looks := true }, kinds := [], alts := [], laidByText := true, laidKinds := [.sentinel], laidTests := true, laidLooks := .later }
def FnExactMsgOfCardSaid : Prop := Claim7.holds Tryd.pinned (.plain (OpenSpec.ofChange fnExactMsgOfSpec)) fnExactMsgOfCard

/-- THE SECOND FORM's CARD OF 'laws.FnMsgs'. -/
def fnMsgsUptoCard : Claim7 := { stood := { row := fnMsgsUptoRow, standIns := [], harness := (true, "538a485812a6a3d5aceef88aed5fc0ea47d7b6dd046c151cfa56884d8a43551f"), looks := true }, kinds := [], alts := [], laidByText := true, laidKinds := [.sentinel], laidTests := true, laidLooks := .later }
def FnMsgsUptoCardSaid : Prop := Claim7.holds Tryd.pinned (.plain (OpenSpec.upto fnMsgsSpec)) fnMsgsUptoCard

/-- THE SECOND FORM's CARD OF 'laws.FnExactMsgOf'. -/
def fnExactMsgOfUptoCard : Claim7 := { stood := { row := fnExactMsgOfUptoRow, standIns := [], harness := (true, "538a485812a6a3d5aceef88aed5fc0ea47d7b6dd046c151cfa56884d8a43551f"), looks := true }, kinds := [], alts := [], laidByText := true, laidKinds := [.sentinel], laidTests := true, laidLooks := .later }
def FnExactMsgOfUptoCardSaid : Prop := Claim7.holds Tryd.pinned (.plain (OpenSpec.upto fnExactMsgOfSpec)) fnExactMsgOfUptoCard
end Rows
end Go.Proofs.YtbkhlaiifbdfoaaDoor
